/- StoreFinds: part 11. -/
import Derived.Test.YtihnldkgeelehaaGreatDoorF09
import Derived.Test.YtihnldkgeelehaaGreatDoorF10
set_option maxRecDepth 100000
set_option maxHeartbeats 4000000
namespace Go.Proofs.YtihnldkgeelehaaGreatDoor
section
open Go.RowKit Go.Maps
structure AM (g cap:Nat) (xs:List Value) (w:World):Prop where
 ex:∃cur,w.heap[g]? =some (.cells cur 9 (0,0))/\cur.size=cap/\cur.toList.take xs.length=xs
 le:xs.length<=cap
 cm:cap<=maxLen
section
variable {g cap:Nat} {xs:List Value} {w w':World}
theorem AM.lt (h:AM g cap xs w):g<w.heap.size:=by
 obtain⟨cur,h1,_⟩:=h.ex;exact(Array.getElem?_eq_some_iff.1 h1).1
theorem AM.block (h:AM g cap xs w) (hb:w'.heap[g]? =w.heap[g]?):AM g cap xs w':=by
 obtain⟨cur,h1,h2⟩:=h.ex;exact⟨⟨cur,by rw[hb];exact h1,h2⟩,h.le,h.cm⟩
theorem AM.cell (h:AM g cap xs w) (j:Nat) (v:Value) (hj:xs[j]? =some v):w.cell? ⟨g,j,none⟩=some v:=by
 obtain⟨cur,h1,h2,h3⟩:=h.ex;obtain⟨hl,rfl⟩:=List.getElem?_eq_some_iff.1 hj;simp only[World.cell?,h1]
 have e:cur.toList[j]? =some xs[j]:=by
  have:=congrArg (·[j]?) h3;simp only[List.getElem?_take,if_pos hl]at this;rw[this,List.getElem?_eq_getElem hl]
 simpa using e
theorem AM.isS (h:AM g cap xs w) (j:Nat) (hj:j<cap):(w.cell? ⟨g,j,none⟩).isSome=true:=by
 obtain⟨cur,h1,h2,h3⟩:=h.ex;simp only[World.cell?,h1];have:j<cur.size:=by omega
 simp[this]
theorem AM.free (h:AM g cap xs w) (j:Nat):w.frozen? ⟨g,j,none⟩=false:=by
 obtain⟨cur,h1,_⟩:=h.ex;simp[World.frozen?,h1]
theorem AM.shape (h:AM g cap xs w):w.shape? g=some (9,cap):=by
 obtain⟨cur,h1,h2,_⟩:=h.ex;simp only[World.shape?,h1,h2]
theorem Cl.at {B:Nat} {v:Value} {ts:List ByteArray} (h:Cl B v ts w) (hp:0<ts.length):∃g cap,v= .slice (some ⟨g,0,none⟩) ts.length cap/\B<=g/\AM g cap (ts.map .string) w:=by
 rcases h.2 with⟨_,e⟩|⟨g,cap,cur,h1,h2,h3,h4,h5,h6,h7⟩
 ·omega
 ·refine⟨g,cap,h1,h2,⟨cur,h3,by rw[h6,Nat.mul_one],?_⟩,by rw[List.length_map];exact h4,h5⟩
  rw[List.length_map];simpa using h7
theorem AM.view (h:AM g cap xs w) {B:Nat} (hB:B<=g):Ao B (.slice (some ⟨g,0,none⟩) xs.length cap) xs w:=
 ⟨some ⟨g,0,none⟩,cap,rfl,h.le,h.cm,(fun e=>by cases e),fun ad e=>by
   cases e
   exact⟨g,0,rfl,hB,h.lt,fun i hi=>by rw[Nat.zero_add];exact h.cell i _ (List.getElem?_eq_getElem hi)⟩⟩
end
theorem CV {B g cap:Nat} {xs:List Value} {w:World} (hB:B<=g) (hg:g<w.heap.size) (h1:xs.length<=cap) (h2:cap<=maxLen) (h:∀i (hi:i<xs.length),w.cell? ⟨g,i,none⟩=some xs[i]):Ao B (.slice (some ⟨g,0,none⟩) xs.length cap) xs w:=
 ⟨some ⟨g,0,none⟩,cap,rfl,h1,h2,(fun e=>by cases e),fun ad e=>by
   cases e
   exact⟨g,0,rfl,hB,hg,fun i hi=>by rw[Nat.zero_add];exact h i hi⟩⟩
theorem A3 (b:Nat):∀(vs:List Value) (o:Nat) (w:World),(w.setCells b o vs).heap.size=w.heap.size
 | [],_,_=>rfl
 |v::r,o,w=>by rw[World.setCells,A3 b r,World.size_setCell]
theorem Ct (ts:List ByteArray):∀v∈ts.map Value.string,v.oneCell'=true:=fun v hv=>by
 obtain⟨t,_,rfl⟩:=List.mem_map.1 hv;rfl
theorem Ob {B:Nat} {v:Value} {ts:List ByteArray} (w:World) (hR:Cl B v ts w) (hp:0<ts.length) (hn:ts.length<=1000) (x:ByteArray) {vb:Nat} (hv:AM vb 1 [.string x] w) (hne:v.ownBlock≠some vb) (hB:B<=w.heap.size):
  Calls Tryz.prog 206 #[v,.int .i64 0,.slice (some ⟨vb,0,none⟩) 1 1] w fun e w'=>∃v',e= .returned v'/\Ao B v' ((x::ts).map Value.string) w'/\Aa (fun b=>some b=v.ownBlock) w w':=by
 obtain⟨g,cap,rfl,hg,hr⟩:=hR.at hp;have hgv:vb≠g:=fun e=>hne (by rw[e];rfl);have hl:(ts.map Value.string).length=ts.length:=List.length_map _;have hle:=hr.le;have hcm:=hr.cm;rw[hl]at hle
 by_cases hroom:ts.length+1<=cap
 ·refine(Any2.slices_Insert_string_shift Tryz.lays2n22 g 0 ts.length cap 0 vb 0 1 1 (ts.map .string) [.string x] w hp (by decide) hroom (by unfold maxLen at hcm;omega) hgv hl rfl (fun j u hj=>by rw[Nat.zero_add];exact hr.cell j u hj) (fun j hj=>by rw[Nat.zero_add];exact hr.isS j (by omega)) (fun j _=>hr.free _)
   (fun j u hj=>by rw[Nat.zero_add];exact hv.cell j u hj) (Ct ts) (by intro u hu;simp at hu;subst hu;rfl) 9 9 1 cap hv.shape hr.shape (by omega) (hv.free _) (hv.free _)).mono ?_
  rintro _ w' ⟨rfl,rfl⟩;refine⟨_,rfl,?_,?_⟩
  ·have hsz:(((w.drew.setCells g (0+(0+1)) ((ts.map Value.string).drop 0)).setCells g (0+0) [.string x])).heap.size=w.heap.size:=by rw[A3,A3];rfl
   have e1:ts.length+1=((x::ts).map Value.string).length:=by simp
   rw[e1];refine CV hg (by rw[hsz];exact hr.lt) (by rw[<-e1];exact hroom) hcm (fun i hi=> ?_);have hs1:∀j,j<cap->((w.drew.setCells g (0+(0+1)) ((ts.map Value.string).drop 0)).cell? ⟨g,j,none⟩).isSome=true:=fun j hj=>isSome_setCells g ((ts.map Value.string).drop 0) (0+(0+1)) w.drew (fun q hq=>(hr.block (w':=w.drew) rfl).isS _ (by rw[List.drop_zero,hl]at hq;omega)) _ ((hr.block (w':=w.drew) rfl).isS j hj)
   cases i with
   |zero=>exact World.cell?_setCells_in g [.string x] 0 _ (fun j hj=>hs1 _ (by simp at hj;omega)) 0 (by simp)
   |succ i=>
    rw[World.cell?_setCells_out g _ _ _ _ (fun _ _=> .inr (by simp))];have h5:=World.cell?_setCells_in g ((ts.map Value.string).drop 0) (0+(0+1)) w.drew (fun j hj=>hr.isS _ (by rw[List.drop_zero,hl]at hj;omega)) i (by rw[List.drop_zero,hl];simpa using hi);rw[show(0+(0+1)+i)=i+1 by omega]at h5;rw[h5];simp
  ·exact(((Ab (Below.refl _ w).drew (fun b=>some b=(Value.slice (some ⟨g,0,none⟩) ts.length cap).ownBlock)).trans (Aa.setCells g _ _ _) (fun i hi=> .inl (by subst hi;rfl)))).trans (Aa.setCells g _ _ _) (fun i hi=> .inl (by subst hi;rfl))
 ·refine(Any2.slices_Insert_string_grow Tryz.lays2n22 g 0 ts.length cap 0 vb 0 1 1 (ts.map .string) [.string x] w hp (by decide) hle (by omega) (by omega) hl rfl (fun j u hj=>by rw[Nat.zero_add];exact hr.cell j u hj)
   (fun j u hj=>by rw[Nat.zero_add];exact hv.cell j u hj) (Ct ts) (by intro u hu;simp at hu;subst hu;rfl)).mono ?_
  rintro _ w' ⟨rfl,rfl⟩;obtain⟨G,hG⟩:∃G,grownCap w (ts.length+1) cap (Tryz.lays2n22_ren.t 9)=G:=⟨_,rfl⟩;have hG1:=grownCap_ge w (ts.length+1) cap (Tryz.lays2n22_ren.t 9);have hG2:=grownCap_le_maxLen w (ts.length+1) cap (Tryz.lays2n22_ren.t 9) (by unfold maxLen;omega);rw[hG]at hG1 hG2;rw[hG];obtain⟨ROW,hROW⟩:∃ROW:Array Value,((ts.map Value.string).take 0).toArray++Builtin.zeroCells (Value.string ⟨#[]⟩).cells (ts.length+1-0)++Builtin.zeroCells (Value.string ⟨#[]⟩).cells (G-(ts.length+1))=ROW:=⟨_,rfl⟩
  have hRl:ROW.size=G:=by
   rw[<-hROW];simp[Builtin.zeroCells,Value.cells];omega
  rw[hROW];clear hROW;refine⟨_,rfl,?_,?_⟩
  ·have hsz:((((w.alloc (.cells ROW (Tryz.lays2n22_ren.t 9))).drew.setCells w.heap.size 0 [.string x]).drew).setCells w.heap.size (0+1) ((ts.map Value.string).drop 0)).heap.size=w.heap.size+1:=by
    rw[A3];show((w.alloc (.cells ROW (Tryz.lays2n22_ren.t 9))).drew.setCells w.heap.size 0 [.string x]).heap.size=_;rw[A3];exact World.size_alloc _ _
   have e1:ts.length+1=((x::ts).map Value.string).length:=by simp
   rw[e1]at hG1 ⊢;refine CV hB (by rw[hsz];omega) hG1 hG2 (fun i hi=> ?_)
   have hs0:∀j,j<G->((w.alloc (.cells ROW (Tryz.lays2n22_ren.t 9))).drew.cell? ⟨w.heap.size,j,none⟩).isSome=true:=fun j hj=>by
    have hn:(w.alloc (.cells ROW (Tryz.lays2n22_ren.t 9))).heap[w.heap.size]? =some (.cells ROW (Tryz.lays2n22_ren.t 9)):=heap_alloc_new w _;show((w.alloc (.cells ROW (Tryz.lays2n22_ren.t 9))).cell? ⟨w.heap.size,j,none⟩).isSome=true;simp only[World.cell?,hn];simp[hRl,hj]
   have hs1:∀j,j<G->(((w.alloc (.cells ROW (Tryz.lays2n22_ren.t 9))).drew.setCells w.heap.size 0 [.string x]).drew.cell? ⟨w.heap.size,j,none⟩).isSome=true:=fun j hj=>isSome_setCells w.heap.size _ _ _ (fun q hq=>hs0 _ (by simp at hq;omega)) _ (hs0 j hj);rw[<-e1]at hG1
   cases i with
   |zero=>
    rw[World.cell?_setCells_out _ _ _ _ _ (fun _ _=> .inl (by simp))];exact World.cell?_setCells_in w.heap.size [.string x] 0 (w.alloc (.cells ROW (Tryz.lays2n22_ren.t 9))).drew (fun j hj=>hs0 _ (by simp at hj;omega)) 0 (by simp)
   |succ i=>
    have h5:=World.cell?_setCells_in w.heap.size ((ts.map Value.string).drop 0) (0+1) ((w.alloc (.cells ROW (Tryz.lays2n22_ren.t 9))).drew.setCells w.heap.size 0 [.string x]).drew (fun j hj=>hs1 _ (by rw[List.drop_zero,hl]at hj;omega)) i (by rw[List.drop_zero,hl];simpa using hi);rw[show(0+1+i)=i+1 by omega]at h5;rw[h5];simp
  ·exact((((Ab ((Below.refl _ w).alloc (Nat.le_refl _) _) (fun b=>some b=(Value.slice (some ⟨g,0,none⟩) ts.length cap).ownBlock)).drew).trans (Aa.setCells w.heap.size _ _ _) (fun i hi=> .inr (by omega))).drew).trans (Aa.setCells w.heap.size _ _ _) (fun i hi=> .inr (by omega))
def BB (L:List (Value×List Nat)):List Nat:=L.flatMap (·.2)
theorem EO {L:List (Value×List Nat)} {k:Nat} (hk:k<L.length):BB (L.take (k+1))=BB (L.take k)++L[k].2:=by
 unfold BB;rw[List.take_succ_eq_append_getElem hk,List.flatMap_append];simp
theorem Fj (L:List (Value×List Nat)) (k:Nat):(BB (L.take k)).length<=(BB L).length:=by
 have:BB L=BB (L.take k)++BB (L.drop k):=by unfold BB;rw[<-List.flatMap_append,List.take_append_drop]
 rw[this,List.length_append];omega
theorem OZ:Tryz.prog.elem 301=69:=by kernel_rfl
set_option maxHeartbeats 1000000
theorem Ow {g B:Nat} (w:World) (L:List (Value×List Nat)) (hl:L.length=3) (hc:∀i (hi:i<L.length),w.cell? ⟨g,i,none⟩=some L[i].1) (hv:∀i (hi:i<L.length),Ao B L[i].1 (At L[i].2) w)
  (h0:0<(BB L).length) (hn:(BB L).length<=3000):
  Calls Tryz.prog 212 #[.slice (some ⟨g,0,none⟩) 3 3] w fun e w'=>∃v,e= .returned v/\D5 w.heap.size v (BB L) w'/\Below w.heap.size w w':=by
 have HC:Hid _:=hc;have HV:Hid _:=hv;have HL:Hid _:=hl;clear hc hv hl;go_enter Tryz.func212,Tryz.ntmps212;go_wp2_with fail
 go_loop [3,11] (fun t i=>∃k:Nat,k<=3/\i= .int .i64 (k:Nat)/\t= .int .i64 ((BB (L.take k)).length:Nat)) (fun _ i=>4-(intOf i).toNat)
 case atStart=>exact⟨0,by omega,rfl,rfl⟩
 case round=>
  obtain⟨k,hk,rfl,rfl⟩:=hrel
  by_cases hlt:k<3
  ·have h1:(k:Int)<3:=by omega
   have hkl:k<L.length:=by rw[HL.out];exact hlt
   have c0:=HC.out k hkl;have hvk:=HV.out k hkl;obtain⟨a,cap,e,_⟩:=hvk.is;rw[Ak]at e;rw[e]at c0;have hle:=Fj L (k+1);have HS:Hid (BB (L.take (k+1))=BB (L.take k)++L[k].2):=EO hkl;rw[HS.out,List.length_append]at hle;have HSL:Hid ((BB (L.take (k+1))).length=(BB (L.take k)).length+L[k].2.length):=by show _=_;rw[HS.out,List.length_append]
   have hix:∀wx,(Instr.indexAt 301 (.slice (some ⟨g,0,none⟩) 3 3) (.int .i64 (k:Nat))).run Tryz.prog wx= .ok (.pointer (some ⟨g,k,none⟩)) wx:=fun wx=>by
    have hz:(sizeOf 69).run Tryz.prog wx= .ok 1 wx:=by simp[Tryz.sizeOf69]
    rw[run_indexAt_slice (h:=Tryz.underlying301),if_pos ⟨by omega,by omega⟩,OZ,hz];simp[Result.andThen,A6]
   generalize L[k].2.length=m at *;generalize (BB (L.take k)).length=n0 at *;clear hvk e HS;go_wp2_with fail
   go_round
   case rel=>exact⟨k+1,by omega,by go_num,by rw[HSL.out];go_num⟩
   case measure=>simp[intOf];omega
  ·have h1:¬(k:Int)<3:=by omega
   obtain rfl:k=3:=by omega
   have e3:L.take 3=L:=List.take_of_length_le (by rw[HL.out];exact Nat.le_refl _);rw[e3];have HE3:Hid _:=e3;clear e3;obtain⟨n0,hn0⟩:∃n,(BB L).length=n:=⟨_,rfl⟩;rw[hn0]at h0 hn;rw[hn0];have HN0:Hid _:=hn0;clear hn0;go_wp2_with fail;refine(Sd n0 h0 (by omega) w).mono ?_;rintro _ w1 ⟨v1,rfl,hR1,hb1⟩;have HR1:Hid (D5 w.heap.size v1 (BB (L.take 0)) w1):=hR1;have HB1:Hid (Below w.heap.size w w1):=hb1;clear hR1 hb1;go_wp2_with fail;go_loopw [6,27] (fun r i wr=>∃k:Nat,k<=3/\i= .int .i64 (k:Nat)/\Hid (D5 w.heap.size r (BB (L.take k)) wr)/\Hid (Below w.heap.size w wr)) (fun _ i _=>4-(intOf i).toNat)
   case atStart=>exact⟨0,by omega,rfl,HR1,HB1⟩
   case round=>
    clear HR1 HB1;obtain⟨k,hk,rfl,HR,HB⟩:=hrel
    by_cases hlt:k<3
    ·have h1:(k:Int)<3:=by omega
     have hkl:k<L.length:=by rw[HL.out];exact hlt
     have c0:=Ae HB.out (HC.out k hkl);have HVk:Hid (Ao B L[k].1 (At L[k].2) _):=(HV.out k hkl).below HB.out;obtain⟨a,cap,e,_⟩:=HVk.out.is;rw[Ak]at e;rw[e]at c0 HVk;have hle:=Fj L (k+1);have HS:Hid (BB (L.take (k+1))=BB (L.take k)++L[k].2):=EO hkl;rw[HS.out,List.length_append]at hle;have HLE:Hid ((BB (L.take k)).length+L[k].2.length<=4000):=by show _<=_;have:=HN0.out;omega
     have hix:∀wx,(Instr.indexAt 301 (.slice (some ⟨g,0,none⟩) 3 3) (.int .i64 (k:Nat))).run Tryz.prog wx= .ok (.pointer (some ⟨g,k,none⟩)) wx:=fun wx=>by
      have hz:(sizeOf 69).run Tryz.prog wx= .ok 1 wx:=by simp[Tryz.sizeOf69]
      rw[run_indexAt_slice (h:=Tryz.underlying301),if_pos ⟨by omega,by omega⟩,OZ,hz];simp[Result.andThen,A6]
     clear e hle;generalize L[k].2=js at *;generalize BB (L.take k)=ks0 at *;obtain⟨m,hm⟩:∃m,js.length=m:=⟨_,rfl⟩;rw[hm]at c0 HVk;clear hm
     go_wp2_with (at_builtin;refine D9 rfl _ _ rfl rfl HR.out rfl HVk.out HLE.out HB.out.size ?_;intro v' w' HR2 HX)
     go_roundw
     case rel=>exact⟨k+1,by omega,by go_num,by rw[HS.out];exact HR2,Aa.below HB.out HX.out HB.out.size (fun i hi=>hi)⟩
     case measure=>simp[intOf];omega
    ·have h1:¬(k:Int)<3:=by omega
     obtain rfl:k=3:=by omega
     rw[HE3.out]at HR;go_wp2;go_ret;exact⟨_,rfl,HR.out,HB.out⟩
end
end Go.Proofs.YtihnldkgeelehaaGreatDoor
