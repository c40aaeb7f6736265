/- StoreFinds: part 34. -/
import Derived.Test.YtihnldkgeelehaaGreatDoorF33
import Derived.Maps.Own
import Derived.Maps.OwnOps
import Derived.Maps.OwnSet
import Derived.Maps.Ext
import Derived.StringKeys
import Derived.LaidEql
import Derived.Stop.Asserts
import Derived.RowKitTokens
set_option maxRecDepth 100000
set_option maxHeartbeats 4000000
namespace Go.Proofs.YtihnldkgeelehaaGreatDoor
section
open Go.RowKit Go.Maps
theorem LG:Keyed Tryz.prog 9:=string_keyed Tryz.underlying9
def kl (k:ByteArray):Lit:= .string k.data.toList
theorem UN {a b:ByteArray} (h:kl a=kl b):a=b:=by
 unfold kl at h;injection h with h;exact SB h
theorem OT {a b:ByteArray} (h:a≠b):kl a≠kl b:=fun e=>h (UN e)
theorem RP (k:ByteArray):WideAt.IsKeyLit (kl k):=trivial
theorem OS {k:ByteArray} (h:k.size<=1000):keyOf Tryz.prog 9 (.string k)=some (kl k):=WideMaps.keyOf_string_mk Tryz.underlying9 (Nat.le_trans h (by decide))
def J0 (v:Value):Option (DataW Value×List MemPlace):=some (.held v,[])
theorem Ql {v:Value} {d:DataW Value} {ps:List MemPlace} (h:J0 v=some (d,ps)):d= .held v:=by
 unfold J0 at h;exact(congrArg Prod.fst (Option.some.inj h)).symm
structure LfD (D:DataW Value) (F:ByteArray->Option Value):Prop where
 isMap:IsMap D
 has:∀k,Maps.has D (kl k)=(F k).isSome
 elem:∀k v,F k=some v->∀z,D.atKey (kl k) z= .held v
def LfB (m n:Nat) (F:ByteArray->Option Value) (w:World):Prop:=∃D:DataW Value,w.ownsMap Tryz.prog 9 J0 m n D/\LfD D F
def setF (F:ByteArray->Option Value) (k:ByteArray) (o:Option Value):ByteArray->Option Value:=fun j=>if j=k then o else F j
theorem B8 (F:ByteArray->Option Value) (k:ByteArray) (o:Option Value):setF F k o k=o:=by simp[setF]
theorem AN (F:ByteArray->Option Value) {k j:ByteArray} (o:Option Value) (h:j≠k):setF F k o j=F j:=by simp[setF,h]
theorem LfD.put {D:DataW Value} {F:ByteArray->Option Value} (h:LfD D F) (k:ByteArray) (v:Value):LfD (D.put (kl k) (.held v)) (setF F k (some v)):=by
 refine⟨h.isMap.put _ _,fun j=> ?_,fun j u hu z=> ?_⟩
 ·by_cases e:j=k
  ·subst e
   rw[has_put_same h.isMap (RP _),B8];rfl
  ·rw[has_put_other (OT e),h.has j,AN _ _ e]
 ·by_cases e:j=k
  ·subst e
   rw[B8]at hu;obtain rfl:=Option.some.inj hu;exact atKey_put_same h.isMap (RP _) _ z
  ·rw[AN _ _ e]at hu
   rw[atKey_put_other (OT e)];exact h.elem j u hu z
theorem LfD.del {D:DataW Value} {F:ByteArray->Option Value} (h:LfD D F) (k:ByteArray):LfD (D.del (kl k)) (setF F k none):=by
 refine⟨h.isMap.del _,fun j=> ?_,fun j u hu z=> ?_⟩
 ·by_cases e:j=k
  ·subst e
   rw[has_del_same,B8];rfl
  ·rw[has_del_other (OT e),h.has j,AN _ _ e]
 ·by_cases e:j=k
  ·subst e
   rw[B8]at hu;cases hu
  ·rw[AN _ _ e]at hu
   rw[atKey_del_other (OT e)];exact h.elem j u hu z
section
variable {m n:Nat} {F:ByteArray->Option Value} {w w':World}
theorem LfB.lt (h:LfB m n F w):m<w.heap.size:=by obtain⟨D,hD,_⟩:=h;exact hD.lt
theorem LfB.block (h:LfB m n F w) (hb:w'.heap[m]? =w.heap[m]?):LfB m n F w':=by
 obtain⟨D,⟨es,clock,hm,F,hs,hD⟩,hM⟩:=h;exact⟨D,⟨es,clock,hb.trans hm,F,hs,hD⟩,hM⟩
theorem LfB.only {S:Nat->Prop} (h:LfB m n F w) (ho:Aa S w w') (hs:¬S m):LfB m n F w':=h.block (ho.block m h.lt hs)
theorem LfB.below (h:LfB m n F w) (hb:Below w.heap.size w w'):LfB m n F w':=h.block (hb.block m h.lt)
theorem LfB.new (w:World):LfB w.heap.size 0 (fun _=>none) (w.alloc (.map #[] 0)):=
 ⟨.map [],World.ownsMap_made _ _ _ _,⟨⟨[],rfl⟩,fun k=>by simp[has_eq],fun k v h=>(by cases h)⟩⟩
end
theorem QN (w:World):(zeroValue 114).run Tryz.prog w= .ok (.slice none 0 0) w:=by kernel_rfl
section
variable {ops:Array Oper} {rest:List Oper} {o:Oper} {a:Act} {Q:Exit->Act->World->Prop} {m n:Nat} {F:ByteArray->Option Value}
theorem LfD.look {D:DataW Value} (hM:LfD D F) {k:ByteArray} {v:Value} {ps:List MemPlace} (hv:J0 v=some (D.atKey (kl k) (.held (.slice none 0 0)),ps)):v=(F k).getD (.slice none 0 0):=by
 have h1:=Ql hv
 cases e:F k with
 |none=>
  have h2:=hM.has k;rw[e]at h2;rw[atKey_of_not_has h2]at h1;injection h1 with h3;exact h3.symm
 |some u=>
  rw[hM.elem k u e]at h1;injection h1 with h3;exact h3.symm
theorem Ts (w:World) (hg:o.guard=none) (mo x:Operand) (hop:o.op=Op.lookup 281 mo x false) (hS:LfB m n F w) (k:ByteArray) (hk:k.size<=1000) (hm:a.eval mo= .map (some m)) (hx:a.eval x= .string k)
  (hK:wpList Tryz.prog ops Q rest (a.put o.dst ((F k).getD (.slice none 0 0))) w):wpList Tryz.prog ops Q (o::rest) a w:=by
 obtain⟨D,hD,hM⟩:=hS;refine wpList_plain hg fun K' hK'=> ?_;obtain⟨v,ps,hrun,hv⟩:=hD.lookup LG Tryz.underlying281 (QN w) (zd:= .held (.slice none 0 0)) (zp:=[]) rfl (OS hk);obtain rfl:=hM.look hv;unfold Oper.wp;simp[execOp,hop,hm,hx,hrun,Result.andThen];exact hK' _ _ hK
theorem MO (w:World) (hg:o.guard=none) (mo x:Operand) (hop:o.op=Op.lookup 281 mo x true) (hS:LfB m n F w) (k:ByteArray) (hk:k.size<=1000) (hm:a.eval mo= .map (some m)) (hx:a.eval x= .string k)
  (hK:wpList Tryz.prog ops Q rest (a.put o.dst (.tuple #[(F k).getD (.slice none 0 0),.bool (F k).isSome])) w):wpList Tryz.prog ops Q (o::rest) a w:=by
 obtain⟨D,hD,hM⟩:=hS;refine wpList_lookup_own_ok w hg mo x 281 hop 9 114 LG Tryz.underlying281 J0 (QN w) (.held (.slice none 0 0)) [] rfl m n D hm hD _ _ hx (OS hk) ?_;intro v ps hv;obtain rfl:=hM.look hv;rw[hM.has];exact hK
theorem U8 (w:World) (hg:o.guard=none) (mo x v:Operand) (hop:o.op=Op.mapUpdate 281 mo x v) (hS:LfB m n F w) (hn:n<1000000) (k:ByteArray) (hk:k.size<=1000) (u:Value) (hm:a.eval mo= .map (some m)) (hx:a.eval x= .string k) (hv:a.eval v=u)
  (hK:∀w',LfB m (n+1) (setF F k (some u)) w'->Aa (fun b=>b=m) w w'->wpList Tryz.prog ops Q rest (a.put o.dst undef) w'):wpList Tryz.prog ops Q (o::rest) a w:=by
 obtain⟨D,hD,hM⟩:=hS;refine wpList_mapUpdate_own w hg mo x v 281 hop 9 114 LG Tryz.underlying281 J0 m n D hm hD (Nat.lt_trans hn (by decide)) _ _ _ hx hv (OS hk) (.held u) [] rfl ?_;intro w' h1 h2;exact hK w' ⟨_,h1,hM.put k u⟩ (Aa.of_grown h2 rfl)
theorem Vg (w:World) (hg:o.guard=none) (mo x:Operand) (hop:o.op=Op.call {callee:=Callee.builtin Builtin.delete,args:= #[mo,x],argTypes:= #[281,9]}) (hS:LfB m n F w) (k:ByteArray) (hk:k.size<=1000) (hm:a.eval mo= .map (some m)) (hx:a.eval x= .string k)
  (hK:∀w',LfB m n (setF F k none) w'->Aa (fun b=>b=m) w w'->wpList Tryz.prog ops Q rest (a.put o.dst (.tuple #[])) w'):wpList Tryz.prog ops Q (o::rest) a w:=by
 obtain⟨D,hD,hM⟩:=hS;refine wpList_delete_own w hg mo x 281 9 hop 114 LG Tryz.underlying281 J0 m n D hm hD _ _ hx (OS hk) ?_;intro w' h1 h2;exact hK w' ⟨_,h1,hM.del k⟩ (Aa.of_grown h2.grown rfl)
end
structure LfR (B:Nat) (A:ByteArray->List Pl) (F:ByteArray->Option Value) (w:World):Prop where
 none:∀k,F k=none->A k=[]
 row:∀k v,F k=some v->w.ownsRow B 118 2 v (A k).length (plc (A k))/\0<(A k).length
 ap:∀k v j u,F k=some v->F j=some u->k≠j->∀b,v.ownBlock=some b->u.ownBlock≠some b
section
variable {B:Nat} {A:ByteArray->List Pl} {F:ByteArray->Option Value} {w w':World}
theorem LfR.only {S:Nat->Prop} (h:LfR B A F w) (ho:Aa S w w') (hS:∀b,S b->b<B):LfR B A F w':=
 ⟨h.none,fun k v hv=>⟨Aw (h.row k v hv).1 ho hS,(h.row k v hv).2⟩,h.ap⟩
theorem LfR.below (h:LfR B A F w) (hb:Below w.heap.size w w'):LfR B A F w':=h.only (Ab hb (fun _=>False)) (fun _ e=>e.elim)
theorem LfR.del (h:LfR B A F w) (k:ByteArray) {A':ByteArray->List Pl} (h0:A' k=[]) (h1:∀j,j≠k->A' j=A j):LfR B A' (setF F k Option.none) w:=by
 refine⟨fun j hj=> ?_,fun j v hv=> ?_,fun j v i u hv hu hne=> ?_⟩
 ·by_cases e:j=k
  ·rw[e];exact h0
  ·rw[AN _ _ e]at hj
   rw[h1 j e];exact h.none j hj
 ·by_cases e:j=k
  ·subst e;rw[B8]at hv;cases hv
  ·rw[AN _ _ e]at hv
   rw[h1 j e];exact h.row j v hv
 ·by_cases e:j=k
  ·subst e;rw[B8]at hv;cases hv
  ·by_cases e2:i=k
   ·subst e2;rw[B8]at hu;cases hu
   ·rw[AN _ _ e]at hv
    rw[AN _ _ e2]at hu;exact h.ap j v i u hv hu hne
theorem LfR.at (h:LfR B A F w) (k:ByteArray):w.ownsRow B 118 2 ((F k).getD (.slice Option.none 0 0)) (A k).length (plc (A k)):=by
 cases e:F k with
 |none=>rw[h.none k e];exact World.ownsRow_nil _ _ _ _
 |some v=>exact(h.row k v e).1
theorem LfR.put (h:LfR B A F w) (k:ByteArray) {A':ByteArray->List Pl} {u:Value} (hG:w.grownBy w' ((F k).getD (.slice Option.none 0 0)).ownBlock) (hu:w'.ownsRow B 118 2 u (A' k).length (plc (A' k))) (hp:0<(A' k).length) (h1:∀j,j≠k->A' j=A j)
  (hat:∀b,u.ownBlock=some b->((F k).getD (.slice Option.none 0 0)).ownBlock=some b\/w.heap.size<=b):LfR B A' (setF F k (some u)) w':=by
 have hap:∀j v,j≠k->F j=some v->∀b,v.ownBlock=some b->((F k).getD (.slice Option.none 0 0)).ownBlock≠some b:=by
  intro j v hj hv b hb
  cases e:F k with
  |none=>intro hx;cases hx
  |some v0=>exact h.ap j v k v0 hv e hj b hb
 have hap2:∀j v,j≠k->F j=some v->∀b,v.ownBlock=some b->u.ownBlock≠some b:=by
  intro j v hj hv b hb hub;rcases hat b hub with e|e
  ·exact hap j v hj hv b hb e
  ·have:=(World.ownsRow.lt (h.row j v hv).1 b hb).2
   omega
 refine⟨fun j hj=> ?_,fun j v hv=> ?_,fun j v i u' hv hu' hne=> ?_⟩
 ·by_cases e:j=k
  ·subst e;rw[B8]at hj;cases hj
  ·rw[AN _ _ e]at hj
   rw[h1 j e];exact h.none j hj
 ·by_cases e:j=k
  ·subst e;rw[B8]at hv
   obtain rfl:=Option.some.inj hv;exact⟨hu,hp⟩
  ·rw[AN _ _ e]at hv
   rw[h1 j e];refine⟨?_,(h.row j v hv).2⟩;exact GQ (S:=fun b=>((F k).getD (.slice Option.none 0 0)).ownBlock=some b) (h.row j v hv).1 (By hG (fun b e=>e)) (fun b hb=>hap j v e hv b hb)
 ·by_cases e:j=k
  ·subst e
   rw[B8]at hv;obtain rfl:=Option.some.inj hv;have e2:i≠j:=fun e=>hne e.symm;rw[AN _ _ e2]at hu';exact fun b hb hb2=>hap2 i u' e2 hu' b hb2 hb
  ·rw[AN _ _ e]at hv
   by_cases e2:i=k
   ·subst e2
    rw[B8]at hu';obtain rfl:=Option.some.inj hu';exact fun b hb=>hap2 j v e hv b hb
   ·rw[AN _ _ e2]at hu'
    exact h.ap j v i u' hv hu' hne
end
theorem K8 (r:Nat):∀(l:List ByteArray) (j:Nat) (x w:ByteArray),AB r j (l++[x]) w=AB r j l w++(if x=w then [⟨(r:Int),((j+l.length:Nat):Int)⟩]else [])
 | [],j,x,w=>by
   rw[List.nil_append,AB,AB,AB];split<;>simp
 |y::l,j,x,w=>by
  rw[List.cons_append,AB,AB,K8 r l (j+1) x w,List.length_cons,show j+1+l.length=j+(l.length+1) by omega];split<;>simp
theorem MD (r:Nat):∀(l:List ByteArray) (j:Nat) (w:ByteArray),(AB r j l w).length<=l.length
 | [],j,w=>Nat.le_refl _
 |y::l,j,w=>by
  have:=MD r l (j+1) w;unfold AB;split<;>simp only[List.length_cons]<;>omega
theorem MB (r:Nat):∀(l:List ByteArray) (j:Nat) (w:ByteArray),w∈l->0<(AB r j l w).length
 | [],j,w,h=>by cases h
 |y::l,j,w,h=>by
  unfold AB
  by_cases e:y=w
  ·rw[if_pos e];simp
  ·rw[if_neg e]
   refine MB r l (j+1) w ?_;rcases List.mem_cons.1 h with h|h
   ·exact absurd h.symm e
   ·exact h
theorem Vf:Tryz.prog.elem 85=9:=by kernel_rfl
theorem Uy:(sizeOf 9).run Tryz.prog=fun w=> .ok 1 w:=by kernel_rfl
theorem Hd (g n cap i:Nat) (hi:i<n) (wx:World):(Instr.indexAt 85 (.slice (some ⟨g,0,none⟩) n cap) (.int .i64 (i:Nat))).run Tryz.prog wx= .ok (.pointer (some ⟨g,i,none⟩)) wx:=by
 have:=Cd Tryz.underlying85 Vf Uy g n cap i hi wx;rw[Nat.one_mul]at this;exact this
theorem Ln {w:World} {B:Nat} {v:Value} {ss:List ByteArray} (h:w.ownsRow B 9 1 v ss.length (sc ss)) {i:Nat} (hi:i<ss.length):∃g cap,v= .slice (some ⟨g,0,none⟩) ss.length cap/\w.cell? ⟨g,i,none⟩=some (.string ss[i]):=by
 obtain⟨g,cap,rfl,h1,h2⟩:=World.ownsRow.form h (by omega);refine⟨g,cap,rfl,?_⟩;have:=h.cells (g:=g) rfl i (.string ss[i]) (by unfold sc;rw[List.getElem?_map,List.getElem?_eq_getElem hi];rfl);rw[A6,Nat.zero_add]at this;exact this
theorem Aa.shed {S:Nat->Prop} {w w':World} (h:Aa (fun b=>S b\/w.heap.size<=b) w w'):Aa S w w':=
 ⟨h.os,h.tape,h.output,h.size,fun k hk hs=>h.block k hk (fun e=>by rcases e with e|e;exact hs e;exact absurd hk (by omega))⟩
section
variable {w:World} {ws:List ByteArray} {v:Value} {r Bx:Nat} {W:Nat->Prop} {I:Nat->World->Prop} {fw:Nat} {cw:Array Value}
open Classical in
noncomputable def Do (r:Nat) (ws:List ByteArray) (i:Nat) (k:ByteArray):List Pl:=if k∈ws.take i then []else AB r 0 ws k
theorem Hw {i j:Nat} {k:ByteArray} (h:k∈ws.take j↔k∈ws.take i):Do r ws j k=Do r ws i k:=by
 unfold Do
 by_cases e:k∈ws.take i
 ·rw[if_pos e,if_pos (h.2 e)]
 ·rw[if_neg e,if_neg (fun e2=>e (h.1 e2))]
theorem MF (hws:∀x∈ws,x.size<=100) (hl:ws.length<=100000) (hrow:w.ownsRow Bx 9 1 v ws.length (sc ws)) (hW:∀b,W b->b<w.heap.size/\v.ownBlock≠some b)
  (eg:∀args w,(callFunc fw args).run Tryz.prog w= .ok (.enter fw args) w) (hI:I 0 w) (hst:∀k wx wy,I k wx->Aa (fun b=>w.heap.size<=b) wx wy->I k wy)
  (hc:∀i (hi:i<ws.length) a n c wx,ws[i]∉ws.take i->I i wx->w.heap.size<=wx.heap.size->wx.ownsRow w.heap.size 118 2 (.slice a n c) (AB r 0 ws ws[i]).length (plc (AB r 0 ws ws[i]))->n=(AB r 0 ws ws[i]).length->
    Calls Tryz.prog fw (#[.string ws[i],.slice a n c]++cw) wx fun e w'=>e= .returned .nilIface/\I (i+1) w'/\Aa W wx w')
  (hsk:∀i (hi:i<ws.length) wx,ws[i]∈ws.take i->I i wx->I (i+1) wx):
  Calls Tryz.prog 181 #[v,.int .i64 (r:Nat),.func (.func fw) #[] cw] w fun e w'=>e= .returned .nilIface/\I ws.length w'/\Aa W w w':=by
 obtain⟨i0,hi0,hz0,hz1,hz2⟩:=CC Oc;obtain⟨a9,c9,hv9⟩:=Aj hrow;obtain⟨n,hn⟩:∃n,ws.length=n:=⟨_,rfl⟩;have HN:Hid _:=hn;rw[hn]at hv9 hl;subst hv9;have hmm:= @run_makeMap Tryz.prog;have HROW:Hid _:=hrow;have HW:Hid _:=hW;have HI:Hid _:=hI;have HST:Hid _:=hst;have HC:Hid _:=hc;have HSK:Hid _:=hsk;have HWS:Hid _:=hws;have hbm:Below w.heap.size w (w.alloc (.map #[] 0)):=(Below.refl _ w).alloc (Nat.le_refl _) _;have HM0:Hid (LfB w.heap.size 0 (fun _=>none) (w.alloc (.map #[] 0))):=LfB.new w;have HBM:Hid _:=hbm
 have HR0:Hid (∀wx,Aa (fun b=>W b\/w.heap.size<=b) w wx->wx.ownsRow Bx 9 1 (.slice a9 n c9) ws.length (sc ws)):=fun wx ho=>GQ HROW.out ho (fun b e=>by
  rintro(e2|e2)
  ·exact(HW.out b e2).2 e
  ·have:=(World.ownsRow.lt HROW.out b e).2;omega)
 clear hrow hW hI hst hc hsk hws hbm hn;go_enter Tryz.func181,Tryz.ntmps181;go_wp2_with fail;go_loopw [18] (fun iv wr=>∃(i:Nat) (F:ByteArray->Option Value),i<=n/\iv= .int .i64 (i:Nat)/\Hid (LfB w.heap.size i F wr)/\Hid (LfR (w.heap.size+1) (AB r 0 (ws.take i)) F wr)/\Hid (Below w.heap.size w wr)/\Hid (w.heap.size+1<=wr.heap.size)) (fun iv _=>n+1-(intOf iv).toNat)
 case atStart=>
  refine⟨0,fun _=>none,Nat.zero_le _,rfl,HM0,⟨fun k _=>rfl,fun k v h=>(by cases h),fun k v j u h=>(by cases h)⟩,HBM,?_⟩;show _<=_;rw[World.size_alloc];omega
 case round=>
  clear HM0;obtain⟨i,F,hi,rfl,HM,HR,HB,HSZ⟩:=hrel
  by_cases hlt:i<n
  ·have h1:(i:Int)<(n:Int):=by omega
   have hil:i<ws.length:=by rw[HN.out];exact hlt
   obtain⟨g,cap,hv,hcell⟩:=Ln (HR0.out wr (Ab HB.out _)) hil;rw[HN.out]at hv
   cases hv
   have hix:=fun wx=>Hd g n c9 i hlt wx;obtain⟨wd,hwd⟩:∃wd,ws[i]=wd:=⟨_,rfl⟩;have HWD:Hid _:=hwd;have hws1:wd.size<=1000:=by have:=HWS.out _ (List.getElem_mem hil);rw[hwd]at this;omega
   rw[hwd]at hcell;have hbA:Below wr.heap.size wr (wr.alloc (.cells #[.int .i64 (r:Nat),.int .i64 (i:Nat)] 118)):=(Below.refl _ _).alloc (Nat.le_refl _) _;have HMA:Hid (LfB w.heap.size i F (wr.alloc (.cells #[.int .i64 (r:Nat),.int .i64 (i:Nat)] 118))):=HM.out.below hbA;have HRA:Hid (LfR (w.heap.size+1) (AB r 0 (ws.take i)) F (wr.alloc (.cells #[.int .i64 (r:Nat),.int .i64 (i:Nat)] 118))):=HR.out.below hbA;have HBA:Hid (Below w.heap.size w (wr.alloc (.cells #[.int .i64 (r:Nat),.int .i64 (i:Nat)] 118))):=HB.out.trans (hbA.mono HB.out.size);obtain⟨v0,hv0⟩:∃v0,(F wd).getD (.slice none 0 0)=v0:=⟨_,rfl⟩;have HV0:Hid _:=hv0
   have HAT:Hid ((wr.alloc (.cells #[.int .i64 (r:Nat),.int .i64 (i:Nat)] 118)).ownsRow (w.heap.size+1) 118 2 v0 (AB r 0 (ws.take i) wd).length (plc (AB r 0 (ws.take i) wd))):=by
    rw[<-hv0];exact HRA.out.at wd
   have hln:(AB r 0 (ws.take i) wd).length<=100000:=by
    have:=MD r (ws.take i) 0 wd;rw[List.length_take]at this;omega
   have HNW:Hid (∀(j:Nat) (u:Value),[Value.int .i64 (r:Nat),.int .i64 (i:Nat)][j]? =some u->(wr.alloc (.cells #[.int .i64 (r:Nat),.int .i64 (i:Nat)] 118)).cell? ((⟨wr.heap.size,0,none⟩:Addr).add j)=some u):=by
    intro j u hu;have hV:=Ac.new wr #[.int .i64 (r:Nat),.int .i64 (i:Nat)] 118 (by simp);rw[A6];exact hV.get hu
   clear hwd hbA hv0
   go_wp2_with (first|(at_lookup;refine Ts _ rfl _ _ rfl HM.out wd hws1 rfl rfl ?_;rw[HV0.out])|(at_builtin;refine wpList_append_lies _ rfl _ _ 114 rfl (w.heap.size+1) 118 i0 (.agg #[.int .i64 0,.int .i64 0]) 2 16 Tryz.underlying114 hi0 hz0 hz1 hz2 rfl (by decide) _ _ _ rfl HAT.out ⟨wr.heap.size,0,none⟩ 1 1 [.int .i64 (r:Nat),.int .i64 (i:Nat)] rfl rfl HNW.out (by intro u hu;simp at hu;rcases hu with rfl|rfl<;>rfl) (by decide) (by simp only[maxLen];omega) (by omega) (by have:=HSZ.out;rw[World.size_alloc];omega) _ rfl ?_;intro g' cap' w' hO hG hat hlt';have HM3:Hid (LfB w.heap.size i F w'):=HMA.out.block (hG.block _ HMA.out.lt (fun e=>by have:=(World.ownsRow.lt HAT.out _ e.symm).1;omega)))|(at_mapUpdate;refine U8 _ rfl _ _ _ rfl HM3.out (by omega) wd hws1 _ rfl rfl rfl ?_;intro w8 hM8 hO8))
   refine⟨⟨i+1,_,by omega,by go_num,hM8,?_,?_,?_⟩,by simp[intOf];omega⟩
   ·refine LfR.only (S:=fun b=>b=w.heap.size) (w:=w') ?_ hO8 (fun b e=>by omega)
    have hsn:=K8 r (ws.take i) 0 ws[i];rw[<-List.take_succ_eq_append_getElem hil,HWD.out]at hsn;have hlt2:(ws.take i).length=i:=by rw[List.length_take];omega
    have hs1:=hsn wd;rw[if_pos rfl,hlt2,Nat.zero_add]at hs1;refine HRA.out.put wd (by rw[HV0.out];exact hG) ?_ ?_ (fun j hj=> ?_) (fun b hb=> ?_)
    ·rw[hs1,List.length_append,FQ]
     exact hO
    ·rw[hs1,List.length_append]
     show 0<_+1;omega
    ·rw[hsn j,if_neg (fun e=>hj e.symm),List.append_nil]
    ·rw[HV0.out]
     have hb':some g'=some b:=hb;obtain rfl:=Option.some.inj hb';rcases hat with e|e
     ·exact .inl e
     ·exact .inr (Nat.le_of_eq e.symm)
   ·have hB2:Below w.heap.size w w':=Aa.below HBA.out (By (S:=fun b=>w.heap.size<=b) hG (fun b e=>by have:=(World.ownsRow.lt HAT.out _ e).1;omega)) HBA.out.size (fun _ e=>e)
    exact Aa.below hB2 hO8 hB2.size (fun b e=>by omega)
   ·show _<=_
    have e1:=hO8.size;have e2:=hG.size;have e3:=HSZ.out;rw[World.size_alloc]at e2;omega
  ·have h1:¬(i:Int)<(n:Int):=by omega
   obtain rfl:n=i:=by omega
   have HRL:Hid (LfR (w.heap.size+1) (Do r ws 0) F wr):=by
    have:=HR.out;rw[<-HN.out,List.take_length]at this
    have e:Do r ws 0=AB r 0 ws:=by
     funext k
     simp[Do]
    show LfR _ _ _ _;rw[e];exact this
   have HI0:Hid (I 0 wr):=HST.out 0 w wr HI.out (Ab HB.out _);have HB1:Hid (Aa (fun b=>W b\/w.heap.size<=b) w wr):=Ab HB.out _;clear HR HB HI;go_wp2_with fail;go_loopw [36] (fun iv wr=>∃(i:Nat) (F:ByteArray->Option Value),i<=n/\iv= .int .i64 (i:Nat)/\Hid (LfB w.heap.size n F wr)/\Hid (LfR (w.heap.size+1) (Do r ws i) F wr)/\Hid (I i wr)/\Hid (Aa (fun b=>W b\/w.heap.size<=b) w wr)) (fun iv _=>n+1-(intOf iv).toNat)
   case atStart=>exact⟨0,F,Nat.zero_le _,rfl,HM,HRL,HI0,HB1⟩
   case round=>
    clear HM HRL HI0 HB1;obtain⟨i,F,hi,rfl,HM,HRL,HII,HB⟩:=hrel
    by_cases hlt:i<n
    ·have h1:(i:Int)<(n:Int):=by omega
     have hil:i<ws.length:=by rw[HN.out];exact hlt
     obtain⟨g,cap,hv,hcell⟩:=Ln (HR0.out wr HB.out) hil;rw[HN.out]at hv
     cases hv
     have hix:=fun wx=>Hd g n c9 i hlt wx;obtain⟨wd,hwd⟩:∃wd,ws[i]=wd:=⟨_,rfl⟩;have HWD:Hid _:=hwd;have hws1:wd.size<=1000:=by have:=HWS.out _ (List.getElem_mem hil);rw[hwd]at this;omega
     rw[hwd]at hcell
     have hnx:∀k,k∈ws.take (i+1)↔k∈ws.take i\/k=wd:=fun k=>by
      rw[List.take_succ_eq_append_getElem hil,hwd,List.mem_append,List.mem_singleton]
     by_cases hin:wd∈ws.take i
     ·have hF:F wd=none:=by
       cases e:F wd with
       |none=>rfl
       |some v1=>
        have:=(HRL.out.row wd v1 e).2;rw[Do,if_pos hin]at this;simp at this
      have HL2:Hid (LfR (w.heap.size+1) (Do r ws (i+1)) F wr):=by
       have e:Do r ws (i+1)=Do r ws i:=by
        funext k
        exact Hw ⟨fun h=>by rcases(hnx k).1 h with h|h;exact h;rw[h];exact hin,fun h=>(hnx k).2 (.inl h)⟩
       show LfR _ _ _ _;rw[e];exact HRL.out
      have HI2:Hid (I (i+1) wr):=HSK.out i hil wr (by rw[HWD.out];exact hin) HII.out;have HFN:Hid ((F wd).getD (.slice none 0 0)= .slice none 0 0/\(F wd).isSome=false):=⟨by rw[hF];rfl,by rw[hF];rfl⟩;clear hF hin hnx hwd
      go_wp2_with (at_lookup;refine MO _ rfl _ _ rfl HM.out wd hws1 rfl rfl ?_;rw[HFN.out.1,HFN.out.2])
      go_roundw
      case rel=>exact⟨i+1,F,by omega,by go_num,HM,HL2,HI2,HB⟩
      case measure=>simp[intOf];omega
     ·have hmem:wd∈ws:=by rw[<-hwd];exact List.getElem_mem hil
      obtain⟨v1,hF⟩:∃v1,F wd=some v1:=by
       cases e:F wd with
       |some v1=>exact⟨v1,rfl⟩
       |none=>
        have h1:=HRL.out.none wd e;rw[Do,if_neg hin]at h1;have h2:=MB r ws 0 wd hmem;rw[h1]at h2;simp at h2
      have hr1:=(HRL.out.row wd v1 hF).1;rw[Do,if_neg hin]at hr1;obtain⟨a1,c1,hv1⟩:=Aj hr1;obtain⟨n1,hn1⟩:∃n1,(AB r 0 ws wd).length=n1:=⟨_,rfl⟩;rw[hn1]at hv1;subst hv1;have HR1:Hid (wr.ownsRow (w.heap.size+1) 118 2 (.slice a1 n1 c1) (AB r 0 ws wd).length (plc (AB r 0 ws wd))):=hr1;have HN1:Hid _:=hn1;have HL2:Hid (LfR (w.heap.size+1) (Do r ws (i+1)) (setF F wd none) wr):=HRL.out.del wd (by unfold Do;rw[if_pos ((hnx wd).2 (.inr rfl))]) (fun j hj=>Hw ⟨fun h=>by rcases(hnx j).1 h with h|h;exact h;exact absurd h hj,fun h=>(hnx j).2 (.inl h)⟩);have HFN:Hid ((F wd).getD (.slice none 0 0)= .slice a1 n1 c1/\(F wd).isSome=true):=⟨by rw[hF];rfl,by rw[hF];rfl⟩;have HIN:Hid (¬ws[i]∈ws.take i):=by rw[hwd];exact hin
      clear hF hin hnx hwd hr1 hn1
      go_wp2_with (first|(at_lookup;refine MO _ rfl _ _ rfl HM.out wd hws1 rfl rfl ?_;rw[HFN.out.1,HFN.out.2])|(at_delete;refine Vg _ rfl _ _ rfl HM.out wd hws1 rfl rfl ?_;intro w8 hM8 hO8))
      have HM8:Hid (LfB w.heap.size n (setF F wd none) w8):=hM8;have HL8:Hid (LfR (w.heap.size+1) (Do r ws (i+1)) (setF F wd none) w8):=HL2.out.only hO8 (fun b e=>by omega);have HB8:Hid (Aa (fun b=>W b\/w.heap.size<=b) w w8):=HB.out.trans hO8 (fun b e=> .inl (.inr (Nat.le_of_eq e.symm)))
      have HCC:Hid (Calls Tryz.prog fw (#[.string wd,.slice a1 n1 c1]++cw) w8 fun e w'=>e= .returned .nilIface/\I (i+1) w'/\Aa W w8 w'):=by
       have h8:w8.ownsRow w.heap.size 118 2 (.slice a1 n1 c1) (AB r 0 ws ws[i]).length (plc (AB r 0 ws ws[i])):=by
        rw[HWD.out];exact AE (Aw HR1.out hO8 (fun b e=>by omega)) (by omega)
       have:=HC.out i hil a1 n1 c1 w8 HIN.out (HST.out i wr w8 HII.out (hO8.mono (fun b e=>Nat.le_of_eq e.symm))) HB8.out.size h8 (by rw[HWD.out,HN1.out]);rw[HWD.out]at this;exact this
      clear hM8 hO8;go_wp2_with fail;refine(show Calls _ _ _ _ _ from HCC.out).mono ?_;rintro _ w9 ⟨rfl,hi9,ho9⟩;have HI9:Hid (I (i+1) w9):=hi9;have HM9:Hid (LfB w.heap.size n (setF F wd none) w9):=HM8.out.only ho9 (fun e=>by have:=(HW.out _ e).1;omega);have HL9:Hid (LfR (w.heap.size+1) (Do r ws (i+1)) (setF F wd none) w9):=HL8.out.only ho9 (fun b e=>by have:=(HW.out _ e).1;omega);have HB9:Hid (Aa (fun b=>W b\/w.heap.size<=b) w w9):=HB8.out.trans ho9 (fun b e=> .inl (.inl e));clear hi9 ho9;go_wp2_with fail;go_roundw
      case rel=>exact⟨i+1,_,by omega,by go_num,HM9,HL9,HI9,HB9⟩
      case measure=>simp[intOf];omega
    ·have h1:¬(i:Int)<(n:Int):=by omega
     obtain rfl:n=i:=by omega
     go_wp2;go_ret;exact⟨rfl,by rw[HN.out];exact HII.out,HB.out.shed⟩
end
end
section
open Go.RowKit Go.Extern.Stop Go.Stop Go.Extern
theorem Tryz.valueOf68 (t:Addr) (w:World):(ReflectliteValue.unpack (.iface 280 (.pointer (some t)))).run Tryz.prog w
  = .ok (.agg #[.pointer (some ⟨6,280,none⟩),.pointer (some ⟨w.heap.size,0,none⟩),.int .u64 150]) (w.alloc (.cells #[.pointer (some t)] 280)):=by kernel_rfl
theorem Tryz.type68 (a:Addr) (w:World):(ReflectliteValue.methodAny (ReflectliteValue.valueError "reflectlite.Value.Type" 0) (fun t _ _ _=>ReflectliteType.toType t) #[.agg #[.pointer (some ⟨6,280,none⟩),.pointer (some a),.int .u64 150]]).run Tryz.prog w
  = .ok (.iface 327 (.agg #[.pointer (some ⟨6,280,none⟩)])) w:=by kernel_rfl
theorem Tryz.methodKind (h:Value) (w:World):(Go.method 469 327 (.agg #[h]) "Kind").run Tryz.prog w= .ok (276,h) w:=by kernel_rfl
theorem Tryz.kind68 (w:World):((ReflectliteType.abiMethod fun t=>(fun a:Nat=>Value.int IntKind.u8 (a:Int)) <$> Rtype.kind t) #[.pointer (some ⟨6,280,none⟩)]).run Tryz.prog w= .ok (.int .u8 22) w:=by kernel_rfl
theorem Tryz.kind24 (w:World):((ReflectliteType.abiMethod fun t=>(fun a:Nat=>Value.int IntKind.u8 (a:Int)) <$> Rtype.kind t) #[.pointer (some ⟨6,101,none⟩)]).run Tryz.prog w= .ok (.int .u8 2) w:=by kernel_rfl
theorem Tryz.parts68 (a:Addr) (w:World):(ReflectliteValue.parts (.agg #[.pointer (some ⟨6,280,none⟩),.pointer (some a),.int .u64 150])).run Tryz.prog w= .ok (some (280,a,150)) w:=by kernel_rfl
theorem Tryz.isNil68 (a p:Addr) (W:World) (ha:W.cell? a=some (.pointer (some p))):
  (ReflectliteValue.method (ReflectliteValue.valueError "reflectlite.Value.IsNil" 0) ReflectliteValue.isNil #[.agg #[.pointer (some ⟨6,280,none⟩),.pointer (some a),.int .u64 150]]).run Tryz.prog W= .ok (.bool false) W:=by
 change Sem.run Tryz.prog (ReflectliteValue.parts (.agg #[.pointer (some ⟨6,280,none⟩),.pointer (some a),.int .u64 150]) >>= _) W=_
 simp only[Sem.run_bind,Tryz.parts68,Result.andThen];simp[ReflectliteValue.isNil,loadVar,isAgg,underlying,Tryz.underlying280,ha,Result.andThen]
theorem Tryz.methodElem (h:Value) (w:World):(Go.method 469 327 (.agg #[h]) "Elem").run Tryz.prog w= .ok (290,.agg #[h]) w:=by kernel_rfl
theorem Tryz.methodImplements (h:Value) (w:World):(Go.method 469 327 (.agg #[h]) "Implements").run Tryz.prog w= .ok (291,.agg #[h]) w:=by kernel_rfl
theorem Tryz.methodAssignableTo (h:Value) (w:World):(Go.method 469 327 (.agg #[h]) "AssignableTo").run Tryz.prog w= .ok (288,.agg #[h]) w:=by kernel_rfl
theorem Tryz.elem68 (w:World):(ReflectliteType.method ReflectliteType.elem #[.agg #[.pointer (some ⟨6,280,none⟩)]]).run Tryz.prog w= .ok (.iface 327 (.agg #[.pointer (some ⟨6,101,none⟩)])) w:=by kernel_rfl
theorem Tryz.implements24 (w:World):(ReflectliteType.relation "Implements" ReflectliteType.implements_ #[.agg #[.pointer (some ⟨6,101,none⟩)],.iface 327 (.agg #[.pointer (some ⟨6,43,none⟩)])]).run Tryz.prog w= .ok (.bool true) w:=by kernel_rfl
theorem Tryz.typeOf24 (v:Value) (w:World):(ReflectliteType.typeOf #[.iface 101 v]).run Tryz.prog w= .ok (.iface 327 (.agg #[.pointer (some ⟨6,101,none⟩)])) w:=by kernel_rfl
theorem Tryz.assignable24 (w:World):(ReflectliteType.relation "AssignableTo" ReflectliteType.assignableTo #[.agg #[.pointer (some ⟨6,101,none⟩)],.iface 327 (.agg #[.pointer (some ⟨6,101,none⟩)])]).run Tryz.prog w= .ok (.bool true) w:=by kernel_rfl
theorem Tryz.valueOf24 (n:Int) (w:World):(ReflectliteValue.unpack (.iface 101 (.int .i64 n))).run Tryz.prog w
  = .ok (.agg #[.pointer (some ⟨6,101,none⟩),.pointer (some ⟨w.heap.size,0,none⟩),.int .u64 130]) (w.alloc (.cells #[.int .i64 n] 101)):=by kernel_rfl
theorem Tryz.elemOf68 (w:World):(Rtype.elem? 280).run Tryz.prog w= .ok (some 101) w:=by kernel_rfl
theorem Tryz.mk24 (p:Addr) (w:World):(ReflectliteValue.mk 101 p ReflectliteValue.flagAddr).run Tryz.prog w= .ok (.agg #[.pointer (some ⟨6,101,none⟩),.pointer (some p),.int .u64 386]) w:=by kernel_rfl
theorem Tryz.elemV68 (a p:Addr) (W:World) (ha:W.cell? a=some (.pointer (some p))):
  (ReflectliteValue.method (ReflectliteValue.valueError "reflectlite.Value.Elem" 0) ReflectliteValue.elem #[.agg #[.pointer (some ⟨6,280,none⟩),.pointer (some a),.int .u64 150]]).run Tryz.prog W
    = .ok (.agg #[.pointer (some ⟨6,101,none⟩),.pointer (some p),.int .u64 386]) W:=by
 change Sem.run Tryz.prog (ReflectliteValue.parts (.agg #[.pointer (some ⟨6,280,none⟩),.pointer (some a),.int .u64 150]) >>= _) W=_
 simp only[Sem.run_bind,Tryz.parts68,Result.andThen];simp[ReflectliteValue.elem,loadVar,isAgg,underlying,Tryz.underlying280,ha,Result.andThen,Tryz.elemOf68,Tryz.mk24]
theorem Tryz.parts24a (a:Addr) (w:World):(ReflectliteValue.parts (.agg #[.pointer (some ⟨6,101,none⟩),.pointer (some a),.int .u64 386])).run Tryz.prog w= .ok (some (101,a,386)) w:=by kernel_rfl
theorem Tryz.parts24 (a:Addr) (w:World):(ReflectliteValue.parts (.agg #[.pointer (some ⟨6,101,none⟩),.pointer (some a),.int .u64 130])).run Tryz.prog w= .ok (some (101,a,130)) w:=by kernel_rfl
theorem Tryz.direct24 (w:World):(Rtype.directlyAssignable 101 101).run Tryz.prog w= .ok true w:=by kernel_rfl
theorem Tryz.set24 (ta b:Addr) (n:Int) (old:Value) (W:World) (hb:W.cell? b=some (.int .i64 n)) (ht:W.cell? ta=some old) (hf:W.frozen? ta=false):
  (ReflectliteValue.set #[.agg #[.pointer (some ⟨6,101,none⟩),.pointer (some ta),.int .u64 386],.agg #[.pointer (some ⟨6,101,none⟩),.pointer (some b),.int .u64 130]]).run Tryz.prog W
    = .ok (.tuple #[]) (W.setCell ta (.int .i64 n)):=by
 change Sem.run Tryz.prog (ReflectliteValue.parts (.agg #[.pointer (some ⟨6,101,none⟩),.pointer (some ta),.int .u64 386]) >>= fun p=>ReflectliteValue.parts (.agg #[.pointer (some ⟨6,101,none⟩),.pointer (some b),.int .u64 130]) >>= _) W=_
 simp only[Sem.run_bind,Tryz.parts24a,Tryz.parts24,Result.andThen];simp[ReflectliteValue.flagAddr,loadVar,isAgg,underlying,Tryz.underlying101,hb,Result.andThen,Tryz.direct24,storeVar,Value.cells,storeCells,Addr.add];rw[run_store Tryz.prog W ta _ _ (by rfl)];simp[ht,hf]
set_option maxHeartbeats 2000000
theorem SE (n:Int) (t a:Addr) (old:Value) (w:World) (ha:w.cell? a=some (.pointer (some t))) (ht0:w.cell? t=some old) (hf0:w.frozen? t=false):
  Calls Tryz.prog 242 #[.iface 101 (.int .i64 n),.iface 280 (.pointer (some t)),.agg #[.pointer (some ⟨6,280,none⟩),.pointer (some a),.int .u64 150],.iface 327 (.agg #[.pointer (some ⟨6,101,none⟩)])] w
   fun ev w'=>ev= .returned (.bool true)/\w'.cell? t=some (.int .i64 n)/\Below t.block w w':=by
 have h34:= @run_callFunc_extern Tryz.prog 239 _ (fun args=>ReflectliteValue.unpack (args.getD 0 (.tuple #[]))) Tryz.func239 (by kernel_rfl) (by kernel_rfl) (by kernel_rfl) (by kernel_rfl);have h38:= @run_callFunc_extern Tryz.prog 255 _ ReflectliteType.typeOf Tryz.func255 (by kernel_rfl) (by kernel_rfl) (by kernel_rfl) (by kernel_rfl);have h65:= @run_callFunc_extern Tryz.prog 288 _ (ReflectliteType.relation "AssignableTo" ReflectliteType.assignableTo) Tryz.func288 (by kernel_rfl) (by kernel_rfl) (by kernel_rfl) (by kernel_rfl);have h39:= @run_callFunc_extern Tryz.prog 256 _ (ReflectliteValue.method (ReflectliteValue.valueError "reflectlite.Value.Elem" 0) ReflectliteValue.elem) Tryz.func256 (by kernel_rfl) (by kernel_rfl) (by kernel_rfl) (by kernel_rfl);have h40:= @run_callFunc_extern Tryz.prog 257 _ ReflectliteValue.set Tryz.func257 (by kernel_rfl) (by kernel_rfl) (by kernel_rfl) (by kernel_rfl);have tO:=Tryz.typeOf24;have mA:=Tryz.methodAssignableTo;have a24:=Tryz.assignable24;have v24:=Tryz.valueOf24;have htl:t.block<w.heap.size:=World.block_lt_of_cell? w _ ht0;have hal:a.block<w.heap.size:=World.block_lt_of_cell? w _ ha;have el:=Tryz.elemV68 a t (w.alloc (.cells #[.pointer (some ⟨6,280,none⟩),.pointer (some a),.int .u64 150] 306)) (by rw[World.cell?_alloc_lt _ _ a hal];exact ha)
 have st:=Tryz.set24 t ⟨w.heap.size+1,0,none⟩ n old ((w.alloc (.cells #[.pointer (some ⟨6,280,none⟩),.pointer (some a),.int .u64 150] 306)).alloc (.cells #[.int .i64 n] 101))
  (by rw[World.cell?_alloc_at _ _ _ _ (by simp)];rfl)
  (by rw[World.cell?_alloc_lt _ _ t (by simp;omega),World.cell?_alloc_lt _ _ t htl];exact ht0)
  (by rw[World.frozen?_alloc_old _ _ t (by simp;omega),World.frozen?_alloc_old _ _ t (Nat.ne_of_lt htl)];exact hf0)
 go_enter Tryz.func242,Tryz.ntmps242;go_wp2;refine wp_loop_rounds 1 ?_;rw[rounds_succ];go_wp2;go_ret;refine⟨rfl,World.cell?_setCell_same _ _ _ (u:=old) (by rw[World.cell?_alloc_lt _ _ t (by simp;omega),World.cell?_alloc_lt _ _ t htl];exact ht0),?_⟩;exact(((Below.refl t.block w).alloc (Nat.le_of_lt htl) _).alloc (by simp;omega) _).setCell (Nat.le_refl _) _
theorem SF (n:Int) (t:Addr) (old:Value) (w:World) (hg:w.cell? ⟨2,0,none⟩=some (.iface 327 (.agg #[.pointer (some ⟨6,43,none⟩)]))) (ht0:w.cell? t=some old) (hf0:w.frozen? t=false):
  Calls Tryz.prog 215 #[.iface 101 (.int .i64 n),.iface 280 (.pointer (some t))] w fun ev w'=>ev= .returned (.bool true)/\w'.cell? t=some (.int .i64 n)/\Below t.block w w':=by
 have h34:= @run_callFunc_extern Tryz.prog 239 _ (fun args=>ReflectliteValue.unpack (args.getD 0 (.tuple #[]))) Tryz.func239 (by kernel_rfl) (by kernel_rfl) (by kernel_rfl) (by kernel_rfl);have h35:= @run_callFunc_extern Tryz.prog 240 _ (ReflectliteValue.methodAny (ReflectliteValue.valueError "reflectlite.Value.Type" 0) (fun t _ _ _=>ReflectliteType.toType t)) Tryz.func240 (by kernel_rfl) (by kernel_rfl) (by kernel_rfl) (by kernel_rfl);have h36:= @run_callFunc_extern Tryz.prog 241 _ (ReflectliteValue.method (ReflectliteValue.valueError "reflectlite.Value.IsNil" 0) ReflectliteValue.isNil) Tryz.func241 (by kernel_rfl) (by kernel_rfl) (by kernel_rfl) (by kernel_rfl);have h55:= @run_callFunc_extern Tryz.prog 276 _ (ReflectliteType.abiMethod fun t=>do pure (.int .u8 (<-Rtype.kind t))) Tryz.func276 (by kernel_rfl) (by kernel_rfl) (by kernel_rfl) (by kernel_rfl);have h67:= @run_callFunc_extern Tryz.prog 290 _ (ReflectliteType.method ReflectliteType.elem) Tryz.func290 (by kernel_rfl) (by kernel_rfl) (by kernel_rfl) (by kernel_rfl);have h68:= @run_callFunc_extern Tryz.prog 291 _ (ReflectliteType.relation "Implements" ReflectliteType.implements_) Tryz.func291 (by kernel_rfl) (by kernel_rfl) (by kernel_rfl) (by kernel_rfl);have f34:=Tryz.valueOf68;have f35:=Tryz.type68;have mK:=Tryz.methodKind;have mE:=Tryz.methodElem;have mI:=Tryz.methodImplements;have k68:=Tryz.kind68;have k24:=Tryz.kind24;have e68:=Tryz.elem68;have i24:=Tryz.implements24;have htl:t.block<w.heap.size:=World.block_lt_of_cell? w _ ht0;have hlt:2<w.heap.size:=World.block_lt_of_cell? w _ hg;have n36:=Tryz.isNil68 ⟨w.heap.size,0,none⟩ t ((w.alloc (.cells #[.pointer (some t)] 280)).alloc (.cells #[.pointer (some ⟨6,280,none⟩),.pointer (some ⟨w.heap.size,0,none⟩),.int .u64 150] 306)) (by simp)
 have hg2:((w.alloc (.cells #[.pointer (some t)] 280)).alloc (.cells #[.pointer (some ⟨6,280,none⟩),.pointer (some ⟨w.heap.size,0,none⟩),.int .u64 150] 306)).cell? ⟨2,0,none⟩=some (.iface 327 (.agg #[.pointer (some ⟨6,43,none⟩)])):=by
  rw[World.cell?_alloc_lt _ _ ⟨2,0,none⟩ (by simp;omega),World.cell?_alloc_lt _ _ ⟨2,0,none⟩ hlt];exact hg
 go_enter Tryz.func215,Tryz.ntmps215;go_wp2_with fail
 refine(SE n t ⟨w.heap.size,0,none⟩ old _
  (by rw[World.cell?_alloc_lt _ _ ⟨w.heap.size,0,none⟩ (by simp)];simp)
  (by rw[World.cell?_alloc_lt _ _ t (by simp;omega),World.cell?_alloc_lt _ _ t htl];exact ht0)
  (by rw[World.frozen?_alloc_old _ _ t (by simp;omega),World.frozen?_alloc_old _ _ t (Nat.ne_of_lt htl)];exact hf0)).mono ?_
 rintro _ w1 ⟨rfl,hc,hb1⟩;go_wp2;go_ret;exact⟨rfl,hc,(((Below.refl t.block w).alloc (Nat.le_of_lt htl) _).alloc (by simp;omega) _).trans hb1⟩
def HG (w:World):Prop:=w.cell? ⟨2,0,none⟩=some (.iface 327 (.agg #[.pointer (some ⟨6,43,none⟩)]))
theorem HG.lt {w:World} (h:HG w):2<w.heap.size:=World.block_lt_of_cell? w _ h
theorem HG.below {w w':World} {B:Nat} (h:HG w) (hb:Below B w w') (hB:2<B):HG w':=(hb.cell (p:=⟨2,0,none⟩) hB).trans h
theorem Mg (w:World):Calls Tryz.prog 180 #[.nilIface] w fun e w'=>e= .returned (.int .i64 0)/\w'=w:=by
 go_enter Tryz.func180,Tryz.ntmps180;go_wp2;go_ret;exact⟨rfl,rfl⟩
set_option maxHeartbeats 1000000
theorem Mh (n:Int) (w:World) (hg:HG w):Calls Tryz.prog 180 #[.iface 101 (.int .i64 n)] w fun e w'=>e= .returned (.int .i64 n)/\Below w.heap.size w w':=by
 have hg2:(w.alloc (.cells #[.int .i64 0] 101)).cell? ⟨2,0,none⟩=some (.iface 327 (.agg #[.pointer (some ⟨6,43,none⟩)])):=by
  rw[World.cell?_alloc_lt _ _ ⟨2,0,none⟩ hg.lt];exact hg
 have HGH:Hid _:=hg2;clear hg2 hg;go_enter Tryz.func180,Tryz.ntmps180;go_wp2_with fail;refine(SF n ⟨w.heap.size,0,none⟩ (.int .i64 0) _ HGH.out (by simp) (by simp)).mono ?_;rintro _ w1 ⟨rfl,hc,hb1⟩;have hb:Below w.heap.size w w1:=((Below.refl _ w).alloc (Nat.le_refl _) _).trans hb1;clear hb1;go_wp2;go_ret;exact⟨rfl,hb⟩
end
end Go.Proofs.YtihnldkgeelehaaGreatDoor
