/- MatchFinds: part 7. -/
import Derived.Test.YtgfldnaahojnlaaGreatDoorF06
import Derived.Laws.EntriesVeiled
set_option maxRecDepth 100000
set_option maxHeartbeats 4000000
namespace Go.Proofs.YtgfldnaahojnlaaGreatDoor
section
open Go.RowKit Go.Maps
def Ue (x:Pr):List Value:=[.string x.k,.string x.i]
def Jj (B:Nat) (v:Value) (ps:List Pr) (w:World):Prop:=w.ownsRow B 182 2 v ps.length (ps.flatMap Ue)
def MT (B C:Nat) (ps:List Pr) (w:World):Prop:=∃v,Af B v w/\Jj C v ps w
theorem XX:∃i0:TypeInfo,Tryz.prog.info? 182=some i0/\i0.zero=some (.agg #[.string ⟨#[]⟩,.string ⟨#[]⟩])/\i0.size=2/\i0.bytes=32:=by
 have h:(Tryz.prog.info? 182).map (fun i=>(i.zero,i.size,i.bytes))=some (some (.agg #[.string ⟨#[]⟩,.string ⟨#[]⟩]),2,32):=by kernel_rfl
 cases hq:Tryz.prog.info? 182 with
 |none=>rw[hq]at h;simp at h
 |some i=>rw[hq]at h;simp at h;exact⟨i,rfl,h.1,h.2.1,h.2.2⟩
theorem Be {w w':World} {base size n:Nat} {e:TypeId} {v:Value} {xs:List Value} {S:Nat->Prop} (h:w.ownsRow base e size v n xs) (ho:Aa S w w') (hS:∀b,S b->b<base):w'.ownsRow base e size v n xs:=by
 refine⟨h.1,?_⟩;rcases h.2 with h2|⟨g,cap,cur,h1,h2,h3,h4⟩
 ·exact .inl h2
 ·have hg:g<w.heap.size:=by
   rcases Nat.lt_or_ge g w.heap.size with hh|hh
   ·exact hh
   ·rw[Array.getElem?_eq_none hh]at h3;cases h3
  exact .inr ⟨g,cap,cur,h1,h2,by rw[ho.block g hg (fun e=>by have:=hS g e;omega)];exact h3,h4⟩
theorem Ab {w w':World} (h:Below w.heap.size w w') (S:Nat->Prop):Aa S w w':=⟨h.os,h.tape,h.output,h.size,fun k hk _=>h.block k hk⟩
theorem Af.only {B:Nat} {v:Value} {w w':World} {S:Nat->Prop} (h:Af B v w) (ho:Aa S w w') (hS:¬S B):Af B v w':=h.block (ho.block B h.lt hS)
theorem D3.only {B:Nat} {a b:Value} {w w':World} {S:Nat->Prop} (h:D3 B a b w) (ho:Aa S w w') (hS:¬S B):D3 B a b w':=h.block (ho.block B h.lt hS)
end
section
open Go
section
variable {P:Program} {ops:Array Oper} {Q:Exit->Act->World->Prop} {md:Region.Mode} {S:World->Prop} {js:Nat}
def Fc (P:Program) (md:Region.Mode) (ops:Array Oper) (Q:Exit->Act->World->Prop) (S:World->Prop) (js:Nat):Nat->Array Bool->Act->World->Prop
 |0,listed,a,w=>Region.ready md ops listed=[]/\Q .normal a w
 |fuel+1,listed,a,w=>
  (Region.ready md ops listed=[]->Q .normal a w)/\
  ∀i∈Region.ready md ops listed,wpOp P ops Q i (fun a' w'=>(i=js->wpAny P md ops Q fuel (listed.setIfInBounds i true) a' w')/\(i≠js->S w'/\Fc P md ops Q S js fuel (listed.setIfInBounds i true) a' w')) a w
theorem GJ:∀(fuel:Nat) (listed:Array Bool) (a:Act) (w:World),Fc P md ops Q S js fuel listed a w->wpAny P md ops Q fuel listed a w
 |0,_,_,_,h=>h
 |fuel+1,_,_,_,h=>⟨h.1,fun i hi=>wpOp_mono (fun a' w' h'=>by
   by_cases e:i=js
   ·exact h'.1 e
   ·exact GJ fuel _ a' w' (h'.2 e).2) (h.2 i hi)⟩
theorem LT {i:Nat} {oi:Oper} {v:Value} (hi:ops[i]? =some oi) (hsel:∀(j:Nat) (o:Oper) cs b,ops[j]? =some o->o.op≠ .select cs b)
  (hQ:∀c a w,Q (.panic c) (a.put oi.dst v) w->Q (.panic c) a w) (hne:i≠js) (hw:∀o,ops[js]? =some o->∃e∈o.after,Region.binds md e=true/\e.on=i):
  ∀(fuel:Nat) (listed:Array Bool) (a:Act) (w:World),
   (∀j oj,ops[j]? =some oj->j≠i->listed.getD j true=false->(∀e∈oj.after,Region.binds md e=true->e.on≠i)->oi.apart ops oj=true)->
   i∈Region.ready md ops listed->YieldsIf P ops S oi v a->S w->
   Fc P md ops Q S js fuel (listed.setIfInBounds i true) (a.put oi.dst v) w->Fc P md ops Q S js (fuel+1) listed a w:=by
 intro fuel
 induction fuel with
 |zero=>
  intro listed a w _ hr hy hS H;refine⟨fun h=>(by rw[h]at hr;cases hr),fun j hj=> ?_⟩
  by_cases hji:j=i
  ·subst hji;exact hy.wpOp hi hS ⟨fun e=>absurd e hne,fun _=>⟨hS,H⟩⟩
  ·have:=ready_mono hj hji
   rw[H.1]at this
   cases this
 |succ fuel ih=>
  intro listed a w hfree hr hy hS H;refine⟨fun h=>(by rw[h]at hr;cases hr),fun j hj=> ?_⟩
  by_cases hji:j=i
  ·subst hji;exact hy.wpOp hi hS ⟨fun e=>absurd e hne,fun _=>⟨hS,H⟩⟩
  ·have h1:=H.2 j (ready_mono hj hji)
   obtain⟨hjun,oj,hoj,hall⟩:=mem_ready.1 hj
   have hnot:∀e∈oj.after,Region.binds md e=true->e.on≠i:=fun e he hb heq=>by
    have h1:=hall e he hb;have h0:=(mem_ready.1 hr).1;rw[heq]at h1;rcases Nat.lt_or_ge i listed.size with h'|h'
    ·simp[h']at h0 h1;rw[h0]at h1;cases h1
    ·simp[Array.getElem?_eq_none h']at h1
   have hjs:j≠js:=fun e=>by
    obtain⟨x,hx,hb,ho⟩:=hw oj (e▸hoj);exact hnot x hx hb ho
   have h2:=wpOp_putIf hoj (hfree j oj hoj hji hjun hnot) (fun cs b=>hsel i oi cs b hi) (fun cs b=>hsel j oj cs b hoj) hQ hy h1
   have hfree':∀k ok,ops[k]? =some ok->k≠i->(listed.setIfInBounds j true).getD k true=false->
     (∀e∈ok.after,Region.binds md e=true->e.on≠i)->oi.apart ops ok=true:=fun k ok hk hki hun hno=>by
    refine hfree k ok hk hki ?_ hno
    by_cases hjk:j=k
    ·subst hjk;exact hjun
    ·rw[getD_set_ne true hjk]at hun;exact hun
   refine wpOp_mono (fun a' w' h3=>⟨fun e=>absurd e hjs,fun _=> ?_⟩) h2;obtain⟨k1,k2⟩:=h3.2.2 hjs;refine⟨k1,ih (listed.setIfInBounds j true) a' w' hfree' (ready_mono hr (Ne.symm hji)) h3.1 k1 ?_⟩;rw[Array.setIfInBounds_comm _ _ hji];exact k2
theorem Ae {i:Nat} {oi:Oper} {v:Value} {fuel:Nat} {listed:Array Bool} {a:Act} {w:World} (hi:ops[i]? =some oi)
  (hs:Region.noSelect ops=true) (hf:Region.free md ops listed i=true) (hr:(Region.ready md ops listed).contains i=true)
  (hQ:∀c a w,Q (.panic c) (a.put oi.dst v) w->Q (.panic c) a w) (hne:i≠js) (hw:((ops[js]?).map fun o=>o.after.any fun e=>Region.binds md e && e.on == i)=some true) (hy:YieldsIf P ops S oi v a) (hS:S w)
  (h:Fc P md ops Q S js fuel (listed.setIfInBounds i true) (a.put oi.dst v) w):Fc P md ops Q S js (fuel+1) listed a w:=
 LT hi (Region.noSelect_spec hs) hQ hne (fun o ho=>by
  rw[ho]at hw;simp only[Option.map_some,Option.some.injEq]at hw;obtain⟨k,hk,hb⟩:=Array.any_eq_true.1 hw;simp at hb;exact⟨_,Array.getElem_mem hk,hb.1,hb.2⟩) fuel listed a w (Region.free_spec hi hf) (by simpa using hr) hy hS h
theorem Fz {i:Nat} {o:Oper} {fuel:Nat} {listed:Array Bool} {a:Act} {w:World} (hr:Region.ready md ops listed=[i]) (ho:ops[i]? =some o) (hne:i≠js) (hwt:Region.wanted o (yielded ops a.tmps)=true)
  (h:∀K':Act->World->Prop,Shut (∀a w,S w->(S w->Fc P md ops Q S js fuel (listed.setIfInBounds i true) a w)->K' a w)->Oper.wp P o a w K' Q):Fc P md ops Q S js (fuel+1) listed a w:=
 ⟨fun h0=>(by rw[hr]at h0;cases h0),fun j hj=>by
   rw[hr]at hj;obtain rfl:=List.mem_singleton.1 hj;exact wpOp_step ho (fun K' hK=>by rw[if_pos hwt];exact h K' (fun a w hS hW=>hK a w ⟨fun e=>absurd e hne,fun _=>⟨hS,hW hS⟩⟩))⟩
theorem EM {o:Oper} {fuel:Nat} {listed:Array Bool} {a:Act} {w:World} (hr:Region.ready md ops listed=[js]) (hr2:Region.ready md ops (listed.setIfInBounds js true)=[]) (ho:ops[js]? =some o) (hwt:Region.wanted o (yielded ops a.tmps)=true)
  (h:∀K':Act->World->Prop,Shut (∀a w,Q .normal a w->K' a w)->Oper.wp P o a w K' Q):Fc P md ops Q S js (fuel+1) listed a w:=
 ⟨fun h0=>(by rw[hr]at h0;cases h0),fun j hj=>by
   rw[hr]at hj;obtain rfl:=List.mem_singleton.1 hj
   have hd:∀a w,Q .normal a w->wpAny P md ops Q fuel (listed.setIfInBounds j true) a w:=fun a w hq=>by
    cases fuel with
    |zero=>exact⟨hr2,hq⟩
    |succ f=>exact⟨fun _=>hq,by rw[hr2];simp⟩
   exact wpOp_step ho (fun K' hK=>by rw[if_pos hwt];exact h K' (fun a w hq=>hK a w ⟨fun _=>hd a w hq,fun e=>absurd rfl e⟩))⟩
theorem Dt {id:Nat} {a:Act} {w:World} (hm:P.follows .mixedOrders=true) (hS:S w.drew)
  (h:S w.drew->Fc P .any ops Q S js ops.size (Array.replicate ops.size false) a w.drew):(Code.region id ops true).wp P Q a w:=
 wp_region_any hm (GJ _ _ _ _ (h hS))
end
end
section
open Go.RowKit Go.Maps
theorem DO {wa wb:World} {b:Nat} (h:wb.heap[b]? =wa.heap[b]?) (o:Nat):wb.cell? ⟨b,o,none⟩=wa.cell? ⟨b,o,none⟩:=by simp only[World.cell?];rw[h]
theorem AI {wa wb:World} {S:Nat->Prop} {k:Option Nat} (h:wa.grownBy wb k) (hk:∀b,k=some b->S b):Aa S wa wb:=
 ⟨h.os,h.tape,h.output,h.size,fun b hb hs=>h.block b hb (fun e=>hs (hk b e.symm))⟩
set_option maxHeartbeats 1000000
theorem PP {fw Bf Bw Bl C:Nat} {cw:Array Value} {ps:List Pr} {wnt:Nat->ByteArray->Bool} {W:Nat->Prop} {I:Nat->World->Prop} (w:World) (from_:ByteArray) (x:Pr) (n:Int) (hx:x.Ok) (hfw:Bf<Bw) (hwl:Bw<Bl) (hlc:Bl<C) (hC:C<=w.heap.size) (hn:ps.length<=40000)
  (h1:Af Bf (.string from_) w) (h2:Af Bw (.func (.func fw) #[] cw) w) (h3:MT Bl C ps w) (hW:∀b,W b->b<Bf) (eg:∀args w,(callFunc fw args).run Tryz.prog w= .ok (.enter fw args) w)
  (hI:I ps.length w) (hst:∀k wx wy,I k wx->Aa (fun b=>Bf<=b) wx wy->I k wy)
  (hc:∀k key wx,k<=40000->I k wx->Calls Tryz.prog fw (#[.string key]++cw) wx fun e w'=>e= .returned (.bool (wnt k key))/\I (k+1) w'/\Aa W wx w'):
  Calls Tryz.prog 176 #[.agg #[.string x.k,.string x.i],.int .i64 n,.pointer (some ⟨Bf,0,none⟩),.pointer (some ⟨Bw,0,none⟩),.pointer (some ⟨Bl,0,none⟩)] w fun e w'=>
   (bl x.k from_=true/\e= .returned (.bool true)/\Below w.heap.size w w')\/(bl x.k from_=false/\wnt ps.length x.k=false/\e= .returned (.bool false)/\MT Bl C ps w'/\Aa (fun b=>W b\/b=Bl\/C<=b) w w')\/
   (bl x.k from_=false/\wnt ps.length x.k=true/\e= .returned (.bool true)/\MT Bl C (ps++[x]) w'/\I (ps.length+1) w'/\Aa (fun b=>W b\/b=Bl\/C<=b) w w'):=by
 obtain⟨kx,ix⟩:=x;obtain⟨ok1,ok2,ok3⟩:=hx;simp only at ok1 ok2 ok3 ⊢;obtain⟨v,l1,l2⟩:=h3;have HST:Hid _:=hst;have HL1:Hid _:=l1;have HL2:Hid _:=l2;have H1:Hid _:=h1;have H2:Hid _:=h2;have hB:Below w.heap.size w (w.alloc (.cells #[.string kx,.string ix] 182)):=(Below.refl _ w).alloc (Nat.le_refl _) _;have HC:Hid (Calls Tryz.prog fw (#[.string kx]++cw) (w.alloc (.cells #[.string kx,.string ix] 182)) fun e w'=>e= .returned (.bool (wnt ps.length kx))/\I (ps.length+1) w'/\Aa W (w.alloc (.cells #[.string kx,.string ix] 182)) w'):=hc ps.length kx _ hn (hst _ _ _ hI (Ab hB _));have HNV:Hid (v.ownBlock≠some w.heap.size):=fun e=>absurd ((World.ownsRow.lt l2 _ e).2) (by omega);have c1:=(h1.below hB).cell;have c2:=(h2.below hB).cell;have HB:Hid _:=hB;have HWW:Hid _:=hW;clear hc l1 l2 h1 h2 hB hW hst hI
 cases hb:bl kx from_
 ·have hb':Op.bytesLess kx.toList from_.toList=false:=hb
  cases hwt:wnt ps.length kx
  ·rw[hwt]at HC
   go_enter Tryz.func176,Tryz.ntmps176;go_wp2_with fail;refine(show Calls _ _ _ _ _ from HC.out).mono ?_;rintro _ w2 ⟨rfl,_,ho⟩;have hWW:=HWW.out;have hlf:=HL1.out.lt;have HL3:Hid (Af Bl v w2):=(HL1.out.below HB.out).only ho (fun e=>by have:=hWW _ e;omega);have HL4:Hid (Jj C v ps w2):=Be (World.ownsRow.alloc HL2.out _) ho (fun b e=>by have:=hWW _ e;omega);have HO2:Hid (Aa (fun b=>W b\/b=Bl\/C<=b) w w2):=(Ab HB.out _).trans (ho.mono (fun _ e=> .inl e)) (fun _ e=> .inl e);clear ho hlf hWW;go_wp2;go_ret
   first|exact .inr (.inl ⟨trivial,trivial,rfl,⟨_,HL3.out,HL4.out⟩,HO2.out⟩)|exact⟨rfl,⟨_,HL3.out,HL4.out⟩,HO2.out⟩
  ·rw[hwt]at HC
   have HWT:Hid (wnt ps.length kx=true):=hwt;obtain⟨i0,hi,hz0,hz1,hz2⟩:=XX;clear hwt;go_enter Tryz.func176,Tryz.ntmps176;go_wp2_with fail;refine(show Calls _ _ _ _ _ from HC.out).mono ?_;rintro _ w2 ⟨rfl,hi2,ho⟩;have hlf:=HL1.out.lt;have hWW:=HWW.out;have HI2:Hid (I (ps.length+1) w2):=hi2;have HV2:Hid (D3 w.heap.size (.string kx) (.string ix) w2):=(D3.new w _ _ 182).only ho (fun e=>by have:=hWW _ e;omega);have HL3:Hid (Af Bl v w2):=(HL1.out.below HB.out).only ho (fun e=>by have:=hWW _ e;omega);have HL4:Hid (Jj C v ps w2):=Be (World.ownsRow.alloc HL2.out _) ho (fun b e=>by have:=hWW _ e;omega);have HO2:Hid (Aa (fun b=>W b\/b=Bl\/C<=b) w w2):=(Ab HB.out _).trans (ho.mono (fun _ e=> .inl e)) (fun _ e=> .inl e);clear ho hlf hWW hi2 c1 c2;go_wp2_with fail;refine Dt (S:=fun wx=>wx.cell? ⟨w.heap.size,0,none⟩=some (.string kx)/\wx.cell? ⟨w.heap.size,1,none⟩=some (.string ix)/\wx.cell? ⟨Bl,0,none⟩=some v) (js:=10) (by kernel_rfl) (⟨HV2.out.c0,HV2.out.c1,HL3.out.cell⟩) ?_;intro g0;refine Ae (i:=0) (oi:={dst:=some 17,op:=Op.load 178 (Operand.tmp 4),type:=178,pos:= "tree.go:125",after:= #[],guard:=none}) (v:=v) rfl (by kernel_rfl) (by kernel_rfl) (by kernel_rfl) (fun _ _ _ h=>h) (by decide) (by kernel_rfl) (Or.inl ⟨by rfl,fun wx h=>by have h8:=h.2.2;go_simp⟩) g0 ?_;simp only[Act.put,List.setIfInBounds_toArray,List.set_cons_zero,List.set_cons_succ];refine Ae (i:=1) (oi:={dst:=some 18,op:=Op.fieldAddr 182 (Operand.tmp 5) 0,type:=0,pos:= "tree.go:125",after:= #[],guard:=none}) (v:= .pointer (some ⟨w.heap.size,0,none⟩)) rfl (by kernel_rfl) (by kernel_rfl) (by kernel_rfl) (fun _ _ _ h=>h) (by decide) (by kernel_rfl) (Or.inl ⟨by rfl,fun wx _=>by go_simp⟩) g0 ?_;simp only[Act.put,List.setIfInBounds_toArray,List.set_cons_zero,List.set_cons_succ];refine Ae (i:=2) (oi:={dst:=some 19,op:=Op.load 9 (Operand.tmp 18),type:=9,pos:= "tree.go:125",after:= #[{on:=1,ground:=Ground.data}],guard:=none}) (v:= .string kx) rfl (by kernel_rfl) (by kernel_rfl) (by kernel_rfl) (fun _ _ _ h=>h) (by decide) (by kernel_rfl) (Or.inl ⟨by rfl,fun wx h=>by have h8:=h.1;go_simp⟩) g0 ?_;simp only[Act.put,List.setIfInBounds_toArray,List.set_cons_zero,List.set_cons_succ];refine Ae (i:=4) (oi:={dst:=some 21,op:=Op.fieldAddr 182 (Operand.tmp 5) 1,type:=0,pos:= "tree.go:125",after:= #[],guard:=none}) (v:= .pointer (some ⟨w.heap.size,1,none⟩)) rfl (by kernel_rfl) (by kernel_rfl) (by kernel_rfl) (fun _ _ _ h=>h) (by decide) (by kernel_rfl) (Or.inl ⟨by rfl,fun wx _=>by go_simp⟩) g0 ?_;simp only[Act.put,List.setIfInBounds_toArray,List.set_cons_zero,List.set_cons_succ];refine Ae (i:=5) (oi:={dst:=some 22,op:=Op.load 9 (Operand.tmp 21),type:=9,pos:= "tree.go:125",after:= #[{on:=4,ground:=Ground.data}],guard:=none}) (v:= .string ix) rfl (by kernel_rfl) (by kernel_rfl) (by kernel_rfl) (fun _ _ _ h=>h) (by decide) (by kernel_rfl) (Or.inl ⟨by rfl,fun wx h=>by have h8:=h.2.1;go_simp⟩) g0 ?_;simp only[Act.put,List.setIfInBounds_toArray,List.set_cons_zero,List.set_cons_succ];refine Fz (i:=3) (o:={dst:=some 20,op:=Op.call {callee:=Callee.value (Operand.func 85),args:= #[Operand.tmp 19],argTypes:= #[9]},type:=9,pos:= "tree.go:125",after:= #[{on:=2,ground:=Ground.data}],guard:=none}) (by kernel_rfl) rfl (by decide) (by rfl) (fun K hK=> ?_)
   go_simp
   refine(Es kx _ (by omega)).mono ?_;rintro _ w3 ⟨rfl,hb3⟩;have HB3:Hid _:=hb3;clear hb3;refine hK.out _ _ (⟨AP HB3.out g0.1,AP HB3.out g0.2.1,AP HB3.out g0.2.2⟩) (fun g1=> ?_);clear hK K
   try simp only[Act.put,List.setIfInBounds_toArray,List.set_cons_zero,List.set_cons_succ]
   refine Fz (i:=6) (o:={dst:=some 23,op:=Op.call {callee:=Callee.value (Operand.func 85),args:= #[Operand.tmp 22],argTypes:= #[9]},type:=9,pos:= "tree.go:125",after:= #[{on:=5,ground:=Ground.data},{on:=3,ground:=Ground.chain}],guard:=none}) (by kernel_rfl) rfl (by decide) (by rfl) (fun K hK=> ?_)
   go_simp
   refine(Es ix _ (by omega)).mono ?_;rintro _ w4 ⟨rfl,hb4⟩;have HB4:Hid _:=hb4;clear hb4;refine hK.out _ _ (⟨AP HB4.out g1.1,AP HB4.out g1.2.1,AP HB4.out g1.2.2⟩) (fun g2=> ?_);clear hK K
   try simp only[Act.put,List.setIfInBounds_toArray,List.set_cons_zero,List.set_cons_succ]
   refine Ae (i:=7) (oi:={dst:=some 24,op:=Op.build 182 #[(0,Operand.tmp 20),(1,Operand.tmp 23)],type:=182,pos:= "tree.go:125",after:= #[{on:=3,ground:=Ground.data},{on:=6,ground:=Ground.data}],guard:=none}) (v:= .agg #[.string kx,.string ix]) rfl (by kernel_rfl) (by kernel_rfl) (by kernel_rfl) (fun _ _ _ h=>h) (by decide) (by kernel_rfl) (Or.inl ⟨by rfl,fun wx _=>by go_simp⟩) g2 ?_;simp only[Act.put,List.setIfInBounds_toArray,List.set_cons_zero,List.set_cons_succ];refine Fz (i:=8) (o:={dst:=some 25,op:=Op.buildSlice 178 1 #[(0,Operand.tmp 24)],type:=178,pos:= "tree.go:125",after:= #[{on:=7,ground:=Ground.data}],guard:=none}) (by kernel_rfl) rfl (by decide) (by rfl) (fun K hK=> ?_);have HB5:Hid (Below w4.heap.size w4 (w4.alloc (.cells #[.string kx,.string ix] 182))):=(Below.refl _ _).alloc (Nat.le_refl _) _
   go_simp
   try simp only[Act.put,List.setIfInBounds_toArray,List.set_cons_zero,List.set_cons_succ]
   refine hK.out _ _ (⟨AP HB5.out g2.1,AP HB5.out g2.2.1,AP HB5.out g2.2.2⟩) (fun g3=> ?_);clear hK K
   try simp only[Act.put,List.setIfInBounds_toArray,List.set_cons_zero,List.set_cons_succ]
   have HRW:Hid (Jj C v ps (w4.alloc (.cells #[.string kx,.string ix] 182))):=Be (Be (Be (Be HL4.out (Ab (Below.refl _ w2).drew (fun _=>False)) (fun _ e=>e.elim)) (Ab HB3.out (fun _=>False)) (fun _ e=>e.elim)) (Ab HB4.out (fun _=>False)) (fun _ e=>e.elim)) (Ab HB5.out (fun _=>False)) (fun _ e=>e.elim);have HO5:Hid (Aa (fun b=>W b\/b=Bl\/C<=b) w (w4.alloc (.cells #[.string kx,.string ix] 182))):=(((HO2.out.trans (Ab (Below.refl _ w2).drew _) (fun _ e=> .inl e)).trans (Ab HB3.out _) (fun _ e=> .inl e)).trans (Ab HB4.out _) (fun _ e=> .inl e)).trans (Ab HB5.out _) (fun _ e=> .inl e);have HOW5:Hid (Af Bl v (w4.alloc (.cells #[.string kx,.string ix] 182))):=(((HL3.out.drew).below HB3.out).below HB4.out).below HB5.out;have HI5:Hid (I (ps.length+1) (w4.alloc (.cells #[.string kx,.string ix] 182))):=HST.out _ _ _ HI2.out ((((Ab (Below.refl _ w2).drew _).trans (Ab HB3.out _) (fun _ e=> .inl e)).trans (Ab HB4.out _) (fun _ e=> .inl e)).trans (Ab HB5.out _) (fun _ e=> .inl e));have HSZ5:Hid (C<=(w4.alloc (.cells #[.string kx,.string ix] 182)).heap.size):=Nat.le_trans hC HO5.out.size;refine Fz (i:=9) (o:={dst:=some 26,op:=Op.call {callee:=Callee.builtin Builtin.append,args:= #[Operand.tmp 17,Operand.tmp 25],argTypes:= #[178,178]},type:=178,pos:= "tree.go:125",after:= #[{on:=0,ground:=Ground.data},{on:=8,ground:=Ground.data},{on:=6,ground:=Ground.chain}],guard:=none}) (by kernel_rfl) rfl (by decide) (by rfl) (fun K hK=> ?_);refine wp_append_own _ _ _ 178 rfl C 182 i0 (.agg #[.string ⟨#[]⟩,.string ⟨#[]⟩]) 2 32 Tryz.underlying178 hi hz0 hz1 hz2 rfl (by decide) _ _ _ rfl HRW.out ⟨w4.heap.size,0,none⟩ 1 1 [.string kx,.string ix] rfl rfl (NR w4 _ _ 182) (by intro u hu;simp at hu;rcases hu with rfl|rfl<;>rfl) (by simp only[maxLen];omega) (by omega) (by have:=HSZ5.out;omega) ?_;intro v' w' hO hG hN;have hne:some Bl≠v.ownBlock:=fun e=>absurd ((World.ownsRow.lt HRW.out Bl e.symm).1) (by omega);have hne2:some w.heap.size≠v.ownBlock:=fun e=>HNV.out e.symm;obtain⟨z5,hz5⟩:∃z5,w4.alloc (.cells #[.string kx,.string ix] 182)=z5:=⟨_,rfl⟩;rw[hz5]at hG g3 HOW5 HI5 HO5 HRW;have HOW6:Hid (Af Bl v w'):=HOW5.out.block (hG.block Bl HOW5.out.lt hne);have hl6:=World.block_lt_of_cell? z5 _ g3.1;have hOn:Aa (fun b=>C<=b) z5 w':=AI hG (fun k e=>by have:=(World.ownsRow.lt HRW.out k e).1;omega);refine hK.out _ _ (⟨(DO (hG.block _ hl6 hne2) _).trans g3.1,(DO (hG.block _ hl6 hne2) _).trans g3.2.1,HOW6.out.cell⟩) (fun g4=> ?_);clear hK K
   try simp only[Act.put,List.setIfInBounds_toArray,List.set_cons_zero,List.set_cons_succ]
   refine EM (o:={dst:=none,op:=Op.store 178 (Operand.tmp 4) (Operand.tmp 26),type:=0,pos:= "tree.go:125",after:= #[{on:=9,ground:=Ground.data},{on:=9,ground:=Ground.chain},{on:=0,ground:=Ground.phase},{on:=1,ground:=Ground.phase},{on:=2,ground:=Ground.phase},{on:=3,ground:=Ground.phase},{on:=4,ground:=Ground.phase},{on:=5,ground:=Ground.phase},{on:=6,ground:=Ground.phase},{on:=7,ground:=Ground.phase},{on:=8,ground:=Ground.phase},{on:=9,ground:=Ground.phase}],guard:=none}) (by kernel_rfl) (by kernel_rfl) rfl (by rfl) (fun K hK=> ?_);obtain⟨g,cap,hv',hg1,hg2⟩:=World.ownsRow.form hO (by omega);subst hv';have c1:=HOW6.out.cell;have c2:=HOW6.out.free
   go_simp
   refine hK.out _ _ ?_;clear hK K
   try simp only[Act.put,List.setIfInBounds_toArray,List.set_cons_zero,List.set_cons_succ]
   go_wp2;go_ret;refine⟨rfl,⟨_,HOW6.out.set _,?_⟩,?_,?_⟩
   ·show World.ownsRow _ _ _ _ _ _ _
    rw[List.flatMap_append,List.length_append];exact Jn hO (by omega)
   ·exact HST.out _ _ _ HI5.out ((hOn.mono (fun _ e=>by omega)).trans (Aa.set Bl 0 _ _) (fun _ e=> .inl (by omega)))
   ·exact(HO5.out.trans (hOn.mono (fun _ e=> .inr (.inr e))) (fun _ e=> .inl e)).trans (Aa.set Bl 0 _ _) (fun _ e=> .inl (.inr (.inl e)))
 ·have hb':Op.bytesLess kx.toList from_.toList=true:=hb
  go_enter Tryz.func176,Tryz.ntmps176;go_wp2;go_ret
  first|exact .inl ⟨trivial,rfl,HB.out⟩|exact⟨rfl,HB.out⟩
def BJ (wnt:Nat->ByteArray->Bool) (from_:ByteArray):Nat->List Pr->List Pr
 |_,[]=>[]
 |k,x::r=>if bl x.k from_=true then BJ wnt from_ k r else if wnt k x.k=true then x::BJ wnt from_ (k+1) r else []
section
variable {wnt:Nat->ByteArray->Bool} {from_:ByteArray}
theorem Iz:∀(l:List Pr) (k:Nat),(BJ wnt from_ k l).length<=l.length
 | [],_=>Nat.le_refl _
 |x::r,k=>by
  unfold BJ;split
  ·exact Nat.le_trans (Iz r k) (by simp)
  ·split
   ·simp only[List.length_cons];have:=Iz r (k+1);omega
   ·simp
theorem J2:∀(l m:List Pr) (k:Nat),(∀x∈l,bl x.k from_=true)->BJ wnt from_ k (l++m)=BJ wnt from_ k m
 | [],_,_,_=>rfl
 |x::r,m,k,h=>by
  rw[List.cons_append,BJ,if_pos (h x (by simp))];exact J2 r m k (fun y hy=>h y (by simp[hy]))
theorem QA:∀l:List Pr,l.length<=szL l
 | []=>Nat.le_refl _
 |x::r=>by
  have:=QA r;rw[szL,List.length_cons];unfold Pr.sz;omega
structure Ho (wnt:Nat->ByteArray->Bool) (from_:ByteArray) (I:Nat->World->Prop) (W:Nat->Prop) (fw Bf Bw Bl C:Nat) (cw:Array Value) (w0:World) (ps:List Pr) (wx:World):Prop where
 o1:Af Bf (.string from_) wx
 o2:Af Bw (.func (.func fw) #[] cw) wx
 pv:MT Bl C ps wx
 ii:I ps.length wx
 on:Aa (fun b=>W b\/b=Bl\/C<=b) w0 wx
 hC:C<=wx.heap.size
structure VH (wnt:Nat->ByteArray->Bool) (I:Nat->World->Prop) (W:Nat->Prop) (fw Bf Bw Bl C:Nat) (cw:Array Value):Prop where
 fb:Bf<Bw
 wl:Bw<Bl
 lc:Bl<C
 hW:∀b,W b->b<Bf
 eg:∀args w,(callFunc fw args).run Tryz.prog w= .ok (.enter fw args) w
 hst:∀k wx wy,I k wx->Aa (fun b=>Bf<=b) wx wy->I k wy
 hc:∀k key wx,k<=40000->I k wx->Calls Tryz.prog fw (#[.string key]++cw) wx fun e w'=>e= .returned (.bool (wnt k key))/\I (k+1) w'/\Aa W wx w'
variable {I:Nat->World->Prop} {W:Nat->Prop} {fw Bf Bw Bl C:Nat} {cw:Array Value} {w0 wx wy:World} {ps:List Pr}
theorem MT.only {S:Nat->Prop} (h:MT Bl C ps wx) (ho:Aa S wx wy) (h1:¬S Bl) (h2:∀b,S b->b<C):MT Bl C ps wy:=by
 obtain⟨v,k1,k2⟩:=h;exact⟨v,k1.only ho h1,Be k2 ho h2⟩
theorem Ho.below (hc:VH wnt I W fw Bf Bw Bl C cw) (h:Ho wnt from_ I W fw Bf Bw Bl C cw w0 ps wx) (hb:Below wx.heap.size wx wy):Ho wnt from_ I W fw Bf Bw Bl C cw w0 ps wy:=
 ⟨h.o1.below hb,h.o2.below hb,h.pv.only (Ab hb (fun _=>False)) (fun e=>e) (fun _ e=>e.elim),hc.hst _ _ _ h.ii (Ab hb _),h.on.trans (Ab hb _) (fun _ e=> .inl e),Nat.le_trans h.hC hb.size⟩
theorem Ho.drew (hc:VH wnt I W fw Bf Bw Bl C cw) (h:Ho wnt from_ I W fw Bf Bw Bl C cw w0 ps wx):Ho wnt from_ I W fw Bf Bw Bl C cw w0 ps wx.drew:=h.below hc (Below.refl _ wx).drew
def VG (W:Nat->Prop) (Bl C:Nat) (w0:World) (fin:List Pr) (wx:World):Prop:=MT Bl C fin wx/\Aa (fun b=>W b\/b=Bl\/C<=b) w0 wx
theorem Ho.step (hc:VH wnt I W fw Bf Bw Bl C cw) (h:Ho wnt from_ I W fw Bf Bw Bl C cw w0 ps wx) (x:Pr) (hx:x.Ok) (n:Int) (hn:ps.length<=40000) (rest:List Pr):
  Calls Tryz.prog 176 #[.agg #[.string x.k,.string x.i],.int .i64 n,.pointer (some ⟨Bf,0,none⟩),.pointer (some ⟨Bw,0,none⟩),.pointer (some ⟨Bl,0,none⟩)] wx fun e w'=>
   ∃b,e= .returned (.bool b)/\(if b then ∃ps',Ho wnt from_ I W fw Bf Bw Bl C cw w0 ps' w'/\ps'++BJ wnt from_ ps'.length rest=ps++BJ wnt from_ ps.length (x::rest)else VG W Bl C w0 (ps++BJ wnt from_ ps.length (x::rest)) w'):=by
 refine(PP wx from_ x n hx hc.fb hc.wl hc.lc h.hC hn h.o1 h.o2 h.pv hc.hW hc.eg h.ii hc.hst hc.hc).mono ?_
 have hf:¬(W Bf\/Bf=Bl\/C<=Bf):=by
  have:=hc.hW Bf;have:=hc.fb;have:=hc.wl;have:=hc.lc;rintro(e|e|e)
  ·have:=hc.hW _ e;omega
  ·omega
  ·omega
 have hw:¬(W Bw\/Bw=Bl\/C<=Bw):=by
  have:=hc.fb;have:=hc.wl;have:=hc.lc;rintro(e|e|e)
  ·have:=hc.hW _ e;omega
  ·omega
  ·omega
 rintro e w' (⟨h1,rfl,h2⟩|⟨h1,h2,rfl,h3,h4⟩|⟨h1,h2,rfl,h3,h4,h5⟩)
 ·refine⟨true,rfl,ps,h.below hc h2,?_⟩
  rw[BJ,if_pos h1]
 ·refine⟨false,rfl,?_,h.on.trans h4 (fun _ e=> .inl e)⟩
  rw[BJ,if_neg (by rw[h1];decide),if_neg (by rw[h2];decide),List.append_nil];exact h3
 ·refine⟨true,rfl,ps++[x],⟨h.o1.only h5 hf,h.o2.only h5 hw,h3,?_,h.on.trans h5 (fun _ e=> .inl e),Nat.le_trans h.hC h5.size⟩,?_⟩
  ·rw[List.length_append];exact h4
  ·rw[List.length_append,BJ,if_neg (by rw[h1];decide),if_pos h2,List.append_assoc]
   rfl
theorem MF {Bt:Nat} (hc:VH wnt I W fw Bf Bw Bl C cw) (h:Ho wnt from_ I W fw Bf Bw Bl C cw w0 ps wx) (ht:Af Bt (.func (.func 176) #[] #[.pointer (some ⟨Bf,0,none⟩),.pointer (some ⟨Bw,0,none⟩),.pointer (some ⟨Bl,0,none⟩)]) wx) {L rest fin:List Pr} (hok:∀x∈L,x.Ok) (hs:szL L<=4096)
  (hfin:ps++BJ wnt from_ ps.length (L++rest)=fin) (hlen:fin.length<=40000):
  Calls Tryz.prog 177 #[.string (Aj L),.pointer (some ⟨Bt,0,none⟩)] wx fun e w'=>∃b,e= .returned (.bool b)/\(if b then ∃ps',Ho wnt from_ I W fw Bf Bw Bl C cw w0 ps' w'/\ps'++BJ wnt from_ ps'.length rest=fin else VG W Bl C w0 fin w'):=by
 have HE:Hid _:=h;have HC:Hid _:=hc;have c0:=ht.cell;have HF:Hid _:=hfin;clear h hc ht hfin;go_enter Tryz.func177,Tryz.ntmps177;go_wp2_with fail
 refine(Gj (fun j wy=>∃ps',Ho wnt from_ I W fw Bf Bw Bl C cw w0 ps' wy/\ps'++BJ wnt from_ ps'.length (L.drop j++rest)=fin) (fun wy=>VG W Bl C w0 fin wy) (enters_of Tryz.func176 (by kernel_rfl) rfl) (FB hok hs) (fun j wy hh=>by
   obtain⟨ps',k1,k2⟩:=hh;exact⟨ps',k1.drew HC.out,k2⟩) (fun j hj wy hh=> ?_) _ ⟨ps,HE.out,by rw[List.drop_zero];exact HF.out⟩).mono ?_
 ·obtain⟨ps',k1,k2⟩:=hh
  rw[List.drop_eq_getElem_cons hj,List.cons_append]at k2
  have hl:ps'.length<=40000:=by
   have:=congrArg List.length k2;rw[List.length_append]at this;omega
  refine(k1.step HC.out L[j] (hok _ (List.getElem_mem hj)) _ hl (L.drop (j+1)++rest)).mono ?_;rintro e w' ⟨b,rfl,hb⟩;refine⟨b,rfl,?_⟩
  cases b
  ·simp only[Bool.false_eq_true,if_false]at hb ⊢
   rw[k2]at hb;exact hb
  ·simp only[if_true]at hb ⊢
   obtain⟨p2,e1,e2⟩:=hb;exact⟨p2,e1,e2.trans k2⟩
 rintro e w' ⟨b,rfl,hb⟩;have HB:Hid _:=hb;clear hb;go_wp2;go_ret
 cases b
 ·exact⟨false,rfl,HB.out⟩
 ·obtain⟨ps',k1,k2⟩:=HB.out
  rw[List.drop_length]at k2;exact⟨true,rfl,ps',k1,k2⟩
end
theorem Du {w:World} {base base2 size n:Nat} {e:TypeId} {v:Value} {xs:List Value} (h:w.ownsRow base e size v n xs) (hb:base2<=base):w.ownsRow base2 e size v n xs:=by
 refine⟨h.1,?_⟩;rcases h.2 with h2|⟨g,cap,cur,h1,h2,h3,h4⟩
 ·exact .inl h2
 ·exact .inr ⟨g,cap,cur,h1,Nat.le_trans hb h2,h3,h4⟩
theorem KZ {B:Nat} {S:Nat->Prop} {w w':World} (h:Below B w w') (hS:∀b,B<=b->S b):Aa S w w':=⟨h.os,h.tape,h.output,h.size,fun k _ hs=>h.block k (Nat.lt_of_not_le (fun e=>hs (hS k e)))⟩
theorem Gq.lessAll {T:Tr} {key txt:ByteArray} {l a b:Nat} (h:Gq T key l txt a b) (ok:BW T.Ls):∀x∈(T.Ls.take l).flatten,bl x.k key=true:=by
 rcases h with⟨h1,_⟩|h
 ·rw[h1];simp
 ·intro x hx
  obtain⟨L,hL,hxL⟩:=List.mem_flatten.1 hx;obtain⟨i,hi,rfl⟩:=List.getElem_of_mem hL;rw[List.length_take]at hi;rw[List.getElem_take]at hxL;obtain⟨y,hy,hyk⟩:=ok.first_mem h.lt;have h1:=ok.apart (i:=i) (j:=l) (by omega) h.lt hxL hy;have h2:=h.left l (by omega) (Nat.le_refl _) h.lt;rw[hyk]at h1;rcases Gn x.k key with e|e|e
  ·exact e
  ·rw[e]at h1;rw[h1]at h2;cases h2
  ·rw[Dx e h1]at h2;cases h2
section
variable {bt bp bd bm N r:Nat} {s:St} {up:Nat->Bool} {cm:Int} {V:Pst} {wnt:Nat->ByteArray->Bool} {I:Nat->World->Prop} {W:Nat->Prop} {fw:Nat} {cw:Array Value}
theorem Ow (w:World) (hT:Tt bt bp r w) (h:Tw bp bd bm N s up cm V w) {T:Tr} (hA:D4 V r T) (from_:ByteArray)
  (hW:∀b,W b->b<w.heap.size/\b≠bt/\b≠bp/\b≠bd/\b≠bm) (eg:∀args w,(callFunc fw args).run Tryz.prog w= .ok (.enter fw args) w)
  (hI:I 0 w) (hst:∀k wx wy,I k wx->Aa (fun b=>w.heap.size<=b) wx wy->I k wy)
  (hc:∀k key wx,k<=40000->I k wx->Calls Tryz.prog fw (#[.string key]++cw) wx fun e w'=>e= .returned (.bool (wnt k key))/\I (k+1) w'/\Aa W wx w'):
  Calls Tryz.prog 132 #[.pointer (some ⟨bt,0,none⟩),.string from_,.func (.func fw) #[] cw] w fun e w'=>∃v,e= .returned (.tuple #[v,.nilIface])/\Jj w.heap.size v (BJ wnt from_ 0 T.all) w'/\Aa W w w':=by
 have HA:Hid _:=hA;have HT:Hid _:=hT;have HW:Hid _:=h;have hmf:∀(fn:Fn) (first cap:Array Value) (w:World),(Instr.makeFunc fn first cap).run Tryz.prog w= .ok (.func fn first cap) w:=fun _ _ _ _=>rfl;have HI:Hid (I 0 w):=hI;have HST:Hid _:=hst;have HC:Hid _:=hc;have HWW:Hid _:=hW;have HB0:Hid (Below w.heap.size w ((w.alloc (.cells #[.string from_] 9)).alloc (.cells #[.func (.func fw) #[] cw] 87))):=((Below.refl _ w).alloc (Nat.le_refl _) _).alloc (by simp) _;have HT0:Hid _:=hT.below HB0.out;have HW0:Hid _:=h.below HB0.out;have n1:=Af.new w (.string from_) 9;have HO1:Hid (Af w.heap.size (.string from_) ((w.alloc (.cells #[.string from_] 9)).alloc (.cells #[.func (.func fw) #[] cw] 87))):=n1.below ((Below.refl _ _).alloc (Nat.le_refl _) _)
 have HO2:Hid (Af (w.heap.size+1) (.func (.func fw) #[] cw) ((w.alloc (.cells #[.string from_] 9)).alloc (.cells #[.func (.func fw) #[] cw] 87))):=by
  have:=Af.new (w.alloc (.cells #[.string from_] 9)) (.func (.func fw) #[] cw) 87;rw[World.size_alloc]at this;exact this
 have q1:=HO1.out.cell;clear hA hT h hI hst hc hW n1;go_enter Tryz.func132,Tryz.ntmps132;go_wp2_with fail;refine(JB HT0.out HW0.out HA.out from_).mono ?_;rintro _ w1 ⟨v,l,txt,a,b,rfl,hs,hv1,hb1⟩;have HS:Hid _:=hs;obtain⟨a9,cap9,hv9,_⟩:=hv1.is;rw[Ai]at hv9;obtain⟨n9,hn9⟩:∃n,T.ks.length=n:=⟨_,rfl⟩;rw[hn9]at hv9;subst hv9;have HV1:Hid _:=hv1;have HO11:Hid _:=HO1.out.below hb1;have HO21:Hid _:=HO2.out.below hb1;have HB1:Hid (Below w.heap.size w w1):=HB0.out.trans (hb1.mono HB0.out.size);have HNN:Hid _:=hn9;have HSZ:Hid (w.heap.size+1+1<=w1.heap.size):=by have:=hb1.size;simp at this;exact this
 have hll:l<=n9:=by
  rcases hs with⟨_,h2,_⟩|h2
  ·omega
  ·have:=h2.lt;rw[<-HA.out.len,hn9]at this;omega
 obtain⟨v',hv2,hcut⟩:=hv1.cut l n9 hll (by rw[Ai,hn9];exact Nat.le_refl _);have hsl:∀wx,(Instr.slice 95 (.slice a9 n9 cap9) (some (.int .i64 (l:Nat))) none none).run Tryz.prog wx= .ok v' wx:=fun wx=>((hcut Tryz.underlying95 Dh Ex (l:Nat) (n9:Nat) rfl rfl wx).2.2 (by rw[Ai,hn9]))
 have hdr:((Ay T.ks).drop l).take (n9-l)=Ay (T.ks.drop l):=by
  rw[List.take_of_length_le (by rw[List.length_drop,Ai,hn9];exact Nat.le_refl _)];exact(List.map_drop ..).symm
 rw[hdr]at hv2;have HV2:Hid (An (w.heap.size+1+1) v' (Ay (T.ks.drop l)) w1):=by show An _ _ _ _;simpa using hv2
 have HT1:Hid (Tt bt bp r w1):=HT.out.below HB1.out;have HW1:Hid (Tw bp bd bm N s up cm V w1):=HW.out.below HB1.out;obtain⟨a8,cap8,hv8,_⟩:=hv2.is;generalize (Ay (List.drop l T.ks)).length=n8 at hv8;subst hv8;clear hs hv1 hb1 hn9 HB0 HT0 HW0 HO1 HO2 q1 hcut hv2 hdr hll HV1;go_wp2_with fail;obtain⟨wB,hwB⟩:∃wB,((w1.alloc (.cells #[.int .i64 (T.top:Nat),.slice a9 n9 cap9,.int .i64 (l:Nat),.string txt,.int .i64 (a:Nat),.int .i64 (b:Nat)] 170)).alloc (.cells #[.slice none 0 0] 178)).alloc (.cells #[.func (.func 176) #[] #[.pointer (some ⟨w.heap.size,0,none⟩),.pointer (some ⟨w.heap.size+1,0,none⟩),.pointer (some ⟨w1.heap.size+1,0,none⟩)]] 258)=wB:=⟨_,rfl⟩;have hbB:Below w1.heap.size w1 wB:=by rw[<-hwB];exact(((Below.refl _ w1).alloc (Nat.le_refl _) _).alloc (by simp) _).alloc (by simp;omega) _
 have hszB:wB.heap.size=w1.heap.size+1+1+1:=by rw[<-hwB];simp
 have HPV:Hid (MT (w1.heap.size+1) (w1.heap.size+1+1+1) [] wB):=by
  refine⟨.slice none 0 0,?_,World.ownsRow_nil _ _ _ _⟩;rw[<-hwB];have:=Af.new (w1.alloc (.cells #[.int .i64 (T.top:Nat),.slice a9 n9 cap9,.int .i64 (l:Nat),.string txt,.int .i64 (a:Nat),.int .i64 (b:Nat)] 170)) (.slice none 0 0) 178;rw[World.size_alloc]at this;exact this.below ((Below.refl _ _).alloc (Nat.le_refl _) _)
 have HTK:Hid (Af (w1.heap.size+1+1) (.func (.func 176) #[] #[.pointer (some ⟨w.heap.size,0,none⟩),.pointer (some ⟨w.heap.size+1,0,none⟩),.pointer (some ⟨w1.heap.size+1,0,none⟩)]) wB):=by
  rw[<-hwB];have:=Af.new ((w1.alloc (.cells #[.int .i64 (T.top:Nat),.slice a9 n9 cap9,.int .i64 (l:Nat),.string txt,.int .i64 (a:Nat),.int .i64 (b:Nat)] 170)).alloc (.cells #[.slice none 0 0] 178)) (.func (.func 176) #[] #[.pointer (some ⟨w.heap.size,0,none⟩),.pointer (some ⟨w.heap.size+1,0,none⟩),.pointer (some ⟨w1.heap.size+1,0,none⟩)]) 258;rw[World.size_alloc,World.size_alloc]at this;exact this
 rw[hwB];clear hwB;have hsz:=HSZ.out;have hltw:=HW.out.lt;have hltt:=HT.out.lt;have hWW:=HWW.out;have hcc:VH wnt I W fw w.heap.size (w.heap.size+1) (w1.heap.size+1) (w1.heap.size+1+1+1) cw:=⟨by omega,by omega,by omega,fun b hb=>(hWW b hb).1,eg,HST.out,HC.out⟩;have HCC:Hid _:=hcc;have HE0:Hid (Ho wnt from_ I W fw w.heap.size (w.heap.size+1) (w1.heap.size+1) (w1.heap.size+1+1+1) cw wB [] wB):=⟨HO11.out.below hbB,HO21.out.below hbB,HPV.out,HST.out _ _ _ (HST.out _ _ _ HI.out (KZ HB1.out (fun b h=>h))) (Ab hbB _),Aa.refl _ _,by omega⟩;have hon:∀ps wx,Ho wnt from_ I W fw w.heap.size (w.heap.size+1) (w1.heap.size+1) (w1.heap.size+1+1+1) cw wB ps wx->Aa W w1 wx:=fun ps wx hE=>(Ab hbB W).trans hE.on (fun i hi=>by rcases hi with hi|hi|hi;exact .inl hi;exact .inr (by omega);exact .inr (by omega));obtain⟨fin,hfin⟩:∃fin,BJ wnt from_ 0 (T.Ls.drop l).flatten=fin:=⟨_,rfl⟩;have HFIN:Hid _:=hfin
 have hflen:fin.length<=40000:=by
  have h1:=Iz (wnt:=wnt) (from_:=from_) (T.Ls.drop l).flatten 0;have h2:=QA (T.Ls.drop l).flatten;have h3:szL T.Ls.flatten=szL (T.Ls.take l).flatten+szL (T.Ls.drop l).flatten:=by rw[<-Am,<-List.flatten_append,List.take_append_drop]
  have h4:=HA.out.ok.sum;rw[hfin]at h1;omega
 have hkl:(T.ks.drop l).length=(T.Ls.drop l).length:=by rw[List.length_drop,List.length_drop,HA.out.len]
 refine(Ki (N:=N) (s:=s) (up:=up) (cm:=cm) (V:=V) (bp:=bp) (bd:=bd) (bm:=bm) (r:=r) (B:=w.heap.size+1+1) hkl (by have:=HA.out.ok.len;have:=HA.out.len;rw[List.length_drop];omega) (fun k hk=>(HA.out.low k (List.mem_of_mem_drop hk)).2) (fun i hi hl=> ?_)
  (fun i wx=>∃ps,Ho wnt from_ I W fw w.heap.size (w.heap.size+1) (w1.heap.size+1) (w1.heap.size+1+1+1) cw wB ps wx/\ps++BJ wnt from_ ps.length ((T.Ls.drop l).drop i).flatten=fin)
  (fun wx=>VG W (w1.heap.size+1) (w1.heap.size+1+1+1) wB fin wx) (fun i wx hh=> ?_) (fun i wx wy hh hb=> ?_) (enters_of Tryz.func177 (by kernel_rfl) rfl) (fun i hi wx hh=> ?_) _ ⟨[],HE0.out,by rw[List.drop_zero];exact hfin⟩).mono ?_
 ·have:=HA.out.leaf (i:=l+i) (by rw[List.length_drop]at hl;omega)
  simpa using this
 ·obtain⟨ps,k1,k2⟩:=hh
  have ho:=hon ps wx k1;refine⟨HT1.out.only ho (fun e=>(hWW _ e).2.1 rfl),HW1.out.only ho (fun e=>(hWW _ e).2.2.1 rfl) (fun e=>(hWW _ e).2.2.2.2 rfl) (fun e=>(hWW _ e).2.2.2.1 rfl),HV2.out.only ho (fun b hb=>by have:=(hWW b hb).1;omega)⟩
 ·obtain⟨ps,k1,k2⟩:=hh
  exact⟨ps,k1.below HCC.out hb,k2⟩
 ·obtain⟨ps,k1,k2⟩:=hh
  rw[List.drop_eq_getElem_cons hi,List.flatten_cons]at k2;have hm:(T.Ls.drop l)[i]∈T.Ls:=List.mem_of_mem_drop (List.getElem_mem hi);have hft:=HA.out.ok.fit _ hm;refine(MF HCC.out k1 (HTK.out.only k1.on (fun e=>by rcases e with e|e|e;have:=(hWW _ e).1;omega;omega;omega)) (HA.out.ok.ok _ hm) (by omega) k2 hflen).mono ?_;rintro e w' ⟨b,rfl,hb⟩;refine⟨b,rfl,?_⟩
  cases b
  ·exact hb
  ·exact hb
 rintro _ w2 ⟨rfl,hD⟩
 have hD2:VG W (w1.heap.size+1) (w1.heap.size+1+1+1) wB fin w2:=by
  rcases hD with⟨ps,k1,k2⟩|hD
  ·rw[List.drop_length]at k2
   have e:ps=fin:=by rw[<-k2];simp[BJ]
   subst e;exact⟨k1.pv,k1.on⟩
  ·exact hD
 obtain⟨⟨vl,p1,p2⟩,p3⟩:=hD2;have HP2:Hid (Jj w.heap.size vl fin w2):=Du p2 (by omega);have HO3:Hid (Aa W w w2):=((Ab HB1.out W).trans (Ab hbB W) (fun i hi=> .inl hi)).trans p3 (fun i hi=>by rcases hi with hi|hi|hi;exact .inl hi;exact .inr (by omega);exact .inr (by omega));have c9:=p1.cell;clear p1 p2 p3 hD hon hcc hbB hszB;go_wp2;go_ret2;refine⟨_,rfl,?_,HO3.out⟩
 have:BJ wnt from_ 0 T.all=fin:=by
  rw[<-HFIN.out];have e0:T.all=(T.Ls.take l).flatten++(T.Ls.drop l).flatten:=by rw[<-List.flatten_append,List.take_append_drop];rfl
  rw[e0];exact J2 _ _ _ (Gq.lessAll HS.out HA.out.ok)
 rw[this];exact HP2.out
end
end
end Go.Proofs.YtgfldnaahojnlaaGreatDoor
