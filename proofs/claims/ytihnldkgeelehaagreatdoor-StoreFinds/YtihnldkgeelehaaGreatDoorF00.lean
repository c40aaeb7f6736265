/- StoreFinds: part 0. -/
import Derived.Test.YtihnldkgeelehaaGreatDoorProg
import Derived.WalkKit
import Derived.WalkSpells
import Derived.WalkLawsBesides
import Derived.Deep.RegionHeld3
import Derived.Maps.OwnSet
import Derived.Deep.MidRow
import Derived.Maps.Ext
import Derived.Maps.OwnOps
import Derived.Maps.StringElems
import Derived.BigQuiet
import Derived.Laws.BitsLemmas
import Derived.Deep.QuietTactic
set_option maxRecDepth 100000
set_option maxHeartbeats 4000000
namespace Go.Proofs.YtihnldkgeelehaaGreatDoor
section
open Go.RowKit
theorem Gw {k:IntKind} {a b:Int} (h:a=b):Ending.returned (.int k a)= .returned (.int k b):=by rw[h]
theorem Cb {a b:Bool} (h:a=b):Ending.returned (.bool a)= .returned (.bool b):=by rw[h]
theorem Tryz.own:ownKnob Tryz.prog.godebug=none:=by kernel_rfl
theorem Tryz.laidOut:laidOutB Tryz.prog=true:=by kernel_rfl
theorem Vj:Tryz.prog.cellsOf 9=1:=by kernel_rfl
theorem Uj:(Tryz.prog.info? 5).map (fun i=>(i.zero,i.size,i.bytes))=some (some (.int .u8 0),1,1):=by kernel_rfl
theorem Below.setCells' {B b:Nat} {a:World} (hB:B<=b):∀(vs:List Value) (o:Nat) (w:World),Below B a w->Below B a (w.setCells b o vs)
 | [],_,_,h=>h
 |v::r,o,_,h=>Below.setCells' hB r (o+1) _ (h.setCell (p:=⟨b,o,none⟩) hB v)
end
section
open Go.RowKit Go.Maps
structure Aa (S:Nat->Prop) (w w':World):Prop where
 os:w'.os=w.os
 tape:w'.tape=w.tape
 output:w'.output=w.output
 size:w.heap.size<=w'.heap.size
 block:∀k,k<w.heap.size->¬S k->w'.heap[k]? =w.heap[k]?
theorem Aa.refl (S:Nat->Prop) (w:World):Aa S w w:=⟨rfl,rfl,rfl,Nat.le_refl _,fun _ _ _=>rfl⟩
theorem Aa.of_below {S:Nat->Prop} {w w':World} (h:Below w.heap.size w w'):Aa S w w':=⟨h.os,h.tape,h.output,h.size,fun k hk _=>h.block k hk⟩
theorem Aa.of_grown {S:Nat->Prop} {w w':World} {b:Nat} (h:w.grownBy w' (some b)) (hb:S b):Aa S w w':=
 ⟨h.os,h.tape,h.output,h.size,fun k hk hs=>h.block k hk (fun e=>hs (by cases e;exact hb))⟩
theorem Aa.trans {S T:Nat->Prop} {w w' w'':World} (h:Aa S w w') (k:Aa T w' w'') (hT:∀i,T i->S i\/w.heap.size<=i):Aa S w w'':=
 ⟨k.os.trans h.os,k.tape.trans h.tape,k.output.trans h.output,Nat.le_trans h.size k.size,fun i hi hs=>(k.block i (Nat.lt_of_lt_of_le hi h.size) (fun ht=>by
   rcases hT i ht with h1|h1
   ·exact hs h1
   ·omega)).trans (h.block i hi hs)⟩
theorem Aa.mono {S T:Nat->Prop} {w w':World} (h:Aa S w w') (hT:∀i,S i->T i):Aa T w w':=
 ⟨h.os,h.tape,h.output,h.size,fun i hi hs=>h.block i hi (fun k=>hs (hT i k))⟩
theorem Aa.drew {S:Nat->Prop} {w w':World} (h:Aa S w w'):Aa S w w'.drew:=⟨h.os,h.tape,h.output,h.size,h.block⟩
theorem Aa.cell {S:Nat->Prop} {w w':World} (h:Aa S w w') {b:Nat} (hb:b<w.heap.size) (hs:¬S b) (o:Nat):w'.cell? ⟨b,o,none⟩=w.cell? ⟨b,o,none⟩:=World.cell?_of_block (h.block b hb hs)
theorem Aa.below {S:Nat->Prop} {B:Nat} {a w w':World} (h:Below B a w) (k:Aa S w w') (hB:B<=w.heap.size) (hS:∀i,S i->B<=i):Below B a w':=
 ⟨k.os.trans h.os,k.tape.trans h.tape,k.output.trans h.output,Nat.le_trans h.size k.size,fun i hi=>(k.block i (by omega) (fun hs=>by have:=hS i hs;omega)).trans (h.block i hi)⟩
def AG (f:Nat->Bool):List Value:=(List.range 2000).map fun k=> .bool (f k)
def BI (rp rn:Nat->Int):List Value:=(List.range 16).map fun k=> .int .i64 (if k % 2=0 then rp (k / 2)else rn (k / 2))
def AD (used:Nat->Bool) (rp rn:Nat->Int) (m:Nat):List Value:=AG used++(BI rp rn++[.map (some m)])
theorem Au (f:Nat->Bool):(AG f).length=2000:=by simp[AG]
theorem AZ (rp rn:Nat->Int):(BI rp rn).length=16:=by simp[BI]
theorem Bj (used:Nat->Bool) (rp rn:Nat->Int) (m:Nat):(AD used rp rn m).length=2017:=by
 rw[AD,List.length_append,Au,List.length_append,AZ];rfl
theorem CE (f:Nat->Bool) {k:Nat} (hk:k<2000):(AG f)[k]? =some (.bool (f k)):=by
 simp[AG,List.getElem?_map,List.getElem?_range hk]
theorem DF (rp rn:Nat->Int) {k:Nat} (hk:k<16):(BI rp rn)[k]? =some (.int .i64 (if k % 2=0 then rp (k / 2)else rn (k / 2))):=by
 simp[BI,List.getElem?_map,List.getElem?_range hk]
theorem Fk {f g:Nat->Bool} (h:∀k,k<2000->f k=g k):AG f=AG g:=
 List.map_congr_left fun k hk=>by rw[h k (List.mem_range.1 hk)]
theorem EX (used:Nat->Bool) (rp rn:Nat->Int) (m:Nat) {k:Nat} (hk:k<2000):(AD used rp rn m)[k]? =some (.bool (used k)):=by
 rw[AD,List.getElem?_append_left (by rw[Au];exact hk),CE _ hk]
theorem EY (used:Nat->Bool) (rp rn:Nat->Int) (m:Nat) {k:Nat} (hk:k<16):(AD used rp rn m)[2000+k]? =some (.int .i64 (if k % 2=0 then rp (k / 2)else rn (k / 2))):=by
 rw[AD,List.getElem?_append_right (by rw[Au];omega),Au,Nat.add_sub_cancel_left,List.getElem?_append_left (by rw[AZ];exact hk),DF _ _ hk]
theorem E9 (used:Nat->Bool) (rp rn:Nat->Int) (m:Nat):(AD used rp rn m)[2016]? =some (.map (some m)):=by
 rw[AD,List.getElem?_append_right (by rw[Au];omega),Au,List.getElem?_append_right (by rw[AZ];omega),AZ];rfl
theorem CD (f:Nat->Bool):∀v∈AG f,v.oneCell'=true:=fun v hv=>by
 obtain⟨k,_,rfl⟩:=List.mem_map.1 hv;rfl
theorem FM (rp rn:Nat->Int):∀v∈BI rp rn,v.oneCell'=true:=fun v hv=>by
 obtain⟨k,_,rfl⟩:=List.mem_map.1 hv;rfl
theorem FI (used:Nat->Bool) (rp rn:Nat->Int) (m:Nat):∀v∈AD used rp rn m,v.oneCell'=true:=fun v hv=>by
 rcases List.mem_append.1 hv with h|h
 ·exact CD _ v h
 ·rcases List.mem_append.1 h with h|h
  ·exact FM _ _ v h
  ·rw[List.mem_singleton.1 h];rfl
structure Pg where
 upper:Nat->Bool
 used:Nat->Bool
 rp:Nat->Int
 rn:Nat->Int
 chg:Nat->Option ByteArray
 commits:Int
 down:Bool
def BL (p:Pg) (bd bm:Nat) (k:Nat):Value:=
 if k=0 then .pointer (some ⟨bd,0,none⟩)else if k<2001 then .bool (p.upper (k-1))else if k<4001 then .bool (p.used (k-2001))
 else if k<4017 then .int .i64 (if(k-4001) % 2=0 then p.rp ((k-4001) / 2)else p.rn ((k-4001) / 2))
 else if k=4017 then .map (some bm)else if k=4018 then .int .i64 p.commits else .bool p.down
theorem GH (p:Pg) (bd bm:Nat) {k:Nat} (hk:k<2000):BL p bd bm (1+k)= .bool (p.upper k):=by
 unfold BL;rw[if_neg (by omega),if_pos (by omega)];simp[Nat.add_comm 1 k]
theorem Cg (p:Pg) (bd bm:Nat) {k:Nat} (hk:k<2000):BL p bd bm (2001+k)= .bool (p.used k):=by
 unfold BL;rw[if_neg (by omega),if_neg (by omega),if_pos (by omega),show 2001+k-2001=k by omega]
theorem BF (p:Pg) (bd bm:Nat) {k:Nat} (hk:k<16):BL p bd bm (4001+k)= .int .i64 (if k % 2=0 then p.rp (k / 2)else p.rn (k / 2)):=by
 unfold BL;rw[if_neg (by omega),if_neg (by omega),if_neg (by omega),if_pos (by omega),show 4001+k-4001=k by omega]
theorem DV (p:Pg) (bd bm:Nat):BL p bd bm 4017= .map (some bm):=rfl
theorem Fq (p:Pg) (bd bm:Nat):BL p bd bm 4018= .int .i64 p.commits:=rfl
theorem Ds (p:Pg) (bd bm:Nat):BL p bd bm 4019= .bool p.down:=rfl
structure Bb (bp bd bm:Nat) (p:Pg) (w:World):Prop where
 cell:∀k,k<4020->w.cell? ⟨bp,k,none⟩=some (BL p bd bm k)
 free:∀k,w.frozen? ⟨bp,k,none⟩=false
section
variable {bp bd bm n:Nat} {p:Pg} {w w':World}
theorem Bb.lt (h:Bb bp bd bm p w):bp<w.heap.size:=World.block_lt_of_cell? w _ (h.cell 0 (by omega))
theorem Bb.block (h:Bb bp bd bm p w) (hb:w'.heap[bp]? =w.heap[bp]?):Bb bp bd bm p w':=
 ⟨fun k hk=>(World.cell?_of_block hb).trans (h.cell k hk),fun k=>(World.frozen?_of_block (a:=⟨bp,k,none⟩) hb).trans (h.free k)⟩
theorem Bb.there (h:Bb bp bd bm p w) (o n:Nat) (ho:o+n<=4020):w.there bp o n:=fun j hj=>⟨by rw[h.cell _ (by omega)];rfl,h.free _⟩
theorem Bb.range (h:Bb bp bd bm p w) (o:Nat) (vs:List Value) (ho:o+vs.length<=4020) (hv:∀j,j<vs.length->vs[j]? =some (BL p bd bm (o+j))):w.rangeAt bp o vs:=fun j v hj=>by
 have hl:=(List.getElem?_eq_some_iff.1 hj).1;rw[h.cell _ (by omega),<-hv j hl,hj]
theorem IK (p:Pg) (bd bm:Nat) {j:Nat} (hj:j<2017):(AD p.used p.rp p.rn bm)[j]? =some (BL p bd bm (2001+j)):=by
 by_cases h1:j<2000
 ·rw[EX _ _ _ _ h1,Cg _ _ _ h1]
 ·by_cases h2:j<2016
  ·obtain⟨i,rfl⟩:∃i,j=2000+i:=⟨j-2000,by omega⟩
   rw[EY _ _ _ _ (by omega),<-Nat.add_assoc,BF _ _ _ (by omega)]
  ·obtain rfl:j=2016:=by omega
   rw[E9,DV]
theorem Bb.state (h:Bb bp bd bm p w):w.rangeAt bp 2001 (AD p.used p.rp p.rn bm):=
 h.range _ _ (by rw[Bj];omega) fun j hj=>by rw[Bj]at hj;exact IK p bd bm hj
end
def CW:Value->Option (DataW Unit×List MemPlace)
 | .agg cs=>match cs.toList with
   | [.string s]=>some (.lit (.string s.data.toList),[])
   |_=>none
 |_=>none
theorem Lp (s:ByteArray):CW (.agg #[.string s])=some (.lit (.string s.data.toList),[]):=rfl
theorem JP {v:Value} {z:DataW Unit×List MemPlace} (h:CW v=some z):∃s:ByteArray,v= .agg #[.string s]/\z=(.lit (.string s.data.toList),[]):=by
 unfold CW at h;split at h
 ·rename_i cs
  split at h
  ·rename_i s hs
   cases h
   refine⟨s,?_,rfl⟩
   have:cs= #[.string s]:=by
    apply Array.toList_inj.1;rw[hs]
   rw[this]
  ·cases h
 ·cases h
structure Ii (D:DataW Unit) (f:Nat->Option ByteArray):Prop where
 isMap:IsMap D
 key:∀l,Maps.has D l=true->∃k:Nat,l= .int .i64 k/\k<2000
 has:∀k:Nat,k<2000->Maps.has D (.int .i64 k)=(f k).isSome
 elem:∀(k:Nat) (s:ByteArray),k<2000->f k=some s->∀z,D.atKey (.int .i64 k) z= .lit (.string s.data.toList)
 small:∀(k:Nat) (s:ByteArray),f k=some s->k<2000/\s.size=1024
def put (f:Nat->Option ByteArray) (k:Nat) (s:Option ByteArray):Nat->Option ByteArray:=fun i=>if i=k then s else f i
theorem Ur (k:Nat) (hk:k<4001):(Lit.int .i64 (k:Int)).wf=true:=WalkArith.wf_i64 (by omega)
theorem LH {i k:Nat} (h:i≠k):(Lit.int .i64 (i:Int))≠ .int .i64 k:=fun e=>h (by injection e with e1 e2;omega)
theorem Ui (k:Nat):WideAt.IsKeyLit (Lit.int .i64 (k:Int)):=trivial
theorem NY:Keyed Tryz.prog 3:=int_keyed Tryz.underlying3
theorem MK:Ii (.map []) (fun _=>none):=
 ⟨isMap_empty,fun l h=>by simp[Maps.has]at h,fun k _=>rfl,fun k s _ h=>(by cases h),fun k s h=>(by cases h)⟩
theorem Ii.put {D:DataW Unit} {f:Nat->Option ByteArray} (h:Ii D f) (k:Nat) (hk:k<2000) (s:ByteArray) (hs:s.size=1024):Ii (D.put (.int .i64 k) (.lit (.string s.data.toList))) (put f k (some s)):=by
 refine⟨h.isMap.put _ _,fun l hl=> ?_,fun i hi=> ?_,fun i t hi ht z=> ?_,fun i t ht=> ?_⟩
 ·by_cases e:l= .int .i64 k
  ·exact⟨k,e,hk⟩
  ·rw[has_put_other e]at hl
   exact h.key l hl
 ·by_cases e:i=k
  ·subst e;rw[has_put_same h.isMap (Ui i)];simp[Go.Proofs.YtihnldkgeelehaaGreatDoor.put]
  ·rw[has_put_other (LH e),h.has i hi];simp[Go.Proofs.YtihnldkgeelehaaGreatDoor.put,e]
 ·by_cases e:i=k
  ·subst e
   rw[atKey_put_same h.isMap (Ui i)];simp[Go.Proofs.YtihnldkgeelehaaGreatDoor.put]at ht;rw[ht]
  ·rw[atKey_put_other (LH e)]
   exact h.elem i t hi (by simpa [Go.Proofs.YtihnldkgeelehaaGreatDoor.put,e]using ht) z
 ·by_cases e:i=k
  ·subst e
   simp[Go.Proofs.YtihnldkgeelehaaGreatDoor.put]at ht;rw[<-ht];exact⟨hk,hs⟩
  ·exact h.small i t (by simpa [Go.Proofs.YtihnldkgeelehaaGreatDoor.put,e]using ht)
theorem Ii.del {D:DataW Unit} {f:Nat->Option ByteArray} (h:Ii D f) (k:Nat):Ii (D.del (.int .i64 k)) (Go.Proofs.YtihnldkgeelehaaGreatDoor.put f k none):=by
 refine⟨h.isMap.del _,fun l hl=> ?_,fun i hi=> ?_,fun i t hi ht z=> ?_,fun i t ht=> ?_⟩
 ·by_cases e:l= .int .i64 k
  ·rw[e,has_del_same]at hl;cases hl
  ·rw[has_del_other e]at hl
   exact h.key l hl
 ·by_cases e:i=k
  ·subst e;rw[has_del_same];simp[Go.Proofs.YtihnldkgeelehaaGreatDoor.put]
  ·rw[has_del_other (LH e),h.has i hi];simp[Go.Proofs.YtihnldkgeelehaaGreatDoor.put,e]
 ·by_cases e:i=k
  ·subst e
   simp[Go.Proofs.YtihnldkgeelehaaGreatDoor.put]at ht
  ·rw[atKey_del_other (LH e)]
   exact h.elem i t hi (by simpa [Go.Proofs.YtihnldkgeelehaaGreatDoor.put,e]using ht) z
 ·by_cases e:i=k
  ·subst e
   simp[Go.Proofs.YtihnldkgeelehaaGreatDoor.put]at ht
  ·exact h.small i t (by simpa [Go.Proofs.YtihnldkgeelehaaGreatDoor.put,e]using ht)
def Az (m n:Nat) (f:Nat->Option ByteArray) (w:World):Prop:=∃D:DataW Unit,w.ownsMap Tryz.prog 3 CW m n D/\Ii D f
theorem Az.lt {m n:Nat} {f:Nat->Option ByteArray} {w:World} (h:Az m n f w):m<w.heap.size:=by obtain⟨D,hD,_⟩:=h;exact hD.lt
theorem Az.block {m n:Nat} {f:Nat->Option ByteArray} {w w':World} (h:Az m n f w) (hb:w'.heap[m]? =w.heap[m]?):Az m n f w':=by
 obtain⟨D,⟨es,clock,hm,F,hs,hD⟩,hM⟩:=h;exact⟨D,⟨es,clock,hb.trans hm,F,hs,hD⟩,hM⟩
theorem Az.only {S:Nat->Prop} {m n:Nat} {f:Nat->Option ByteArray} {w w':World} (h:Az m n f w) (ho:Aa S w w') (hs:¬S m):Az m n f w':=h.block (ho.block m h.lt hs)
theorem Az.mono {m n n':Nat} {f:Nat->Option ByteArray} {w:World} (h:Az m n f w) (hn:n<=n'):Az m n' f w:=by
 obtain⟨D,hD,hM⟩:=h;exact⟨D,hD.mono hn,hM⟩
theorem Az.ne_cell {m n:Nat} {f:Nat->Option ByteArray} {w:World} (h:Az m n f w) {b o:Nat} {v:Value} (hc:w.cell? ⟨b,o,none⟩=some v):m≠b:=by
 obtain⟨D,⟨es,clock,hm,_⟩,_⟩:=h;intro e;subst e;simp[World.cell?,hm]at hc
structure Am (bp bd bm n:Nat) (p:Pg) (w:World):Prop where
 cells:Bb bp bd bm p w
 own:Az bm n p.chg w
section
variable {bp bd bm n:Nat} {p:Pg} {w w':World}
theorem Am.ne (h:Am bp bd bm n p w):bm≠bp:=h.own.ne_cell (h.cells.cell 0 (by omega))
theorem Am.lt (h:Am bp bd bm n p w):bp<w.heap.size:=h.cells.lt
theorem Am.mlt (h:Am bp bd bm n p w):bm<w.heap.size:=h.own.lt
theorem Am.only {S:Nat->Prop} (h:Am bp bd bm n p w) (ho:Aa S w w') (h1:¬S bp) (h2:¬S bm):Am bp bd bm n p w':=⟨h.cells.block (ho.block bp h.lt h1),h.own.only ho h2⟩
theorem Am.below (h:Am bp bd bm n p w) (hb:Below w.heap.size w w'):Am bp bd bm n p w':=h.only (Aa.of_below (S:=fun _=>False) hb) (fun e=>e) (fun e=>e)
theorem Am.drew (h:Am bp bd bm n p w):Am bp bd bm n p w.drew:=⟨h.cells.block rfl,h.own.block rfl⟩
theorem Am.mono (h:Am bp bd bm n p w) {n':Nat} (hn:n<=n'):Am bp bd bm n' p w:=⟨h.cells,h.own.mono hn⟩
end
theorem Rj:(Tryz.prog.info? 32).map (·.size)=some 2000:=by kernel_rfl
theorem O7:Tryz.zeroCells32=(AG fun _=>false).toArray:=by kernel_rfl
def BO (s:ByteArray) (k:Nat):Bool:=(s.data.toList.getD (k / 8) 0).toNat.testBit (k % 8)
structure JL (B:Nat) (f:Nat->Bool) (w:World):Prop where
 cell:∀j,j<2000->w.cell? ⟨B,j,none⟩=some (.bool (f j))
 free:∀j,w.frozen? ⟨B,j,none⟩=false
theorem JL.range {B:Nat} {f:Nat->Bool} {w:World} (h:JL B f w):w.rangeAt B 0 (AG f):=fun j v hj=>by
 have hl:=(List.getElem?_eq_some_iff.1 hj).1;rw[Au]at hl;rw[CE _ hl]at hj;rw[Nat.zero_add,h.cell j hl,hj]
theorem TV:∀(v:Fin 256) (i:Fin 8),(bits BinOp.and IntKind.u8 ((v.val:Int) / 2 ^ i.val) 1 == 1)=v.val.testBit i.val:=by decide+kernel
theorem Vk (s:ByteArray) (k:Nat) (h:k / 8<s.size):(bits BinOp.and IntKind.u8 (((s[k / 8]).toNat:Int) / 2 ^ (k % 8)) 1 == 1)=BO s k:=by
 have:=TV ⟨(s[k / 8]).toNat,(s[k / 8]).toNat_lt⟩ ⟨k % 8,by omega⟩;rw[this];have hl:k / 8<s.data.toList.length:=by simpa using h
 simp only[BO,List.getD_eq_getElem?_getD,List.getElem?_eq_getElem hl,Option.getD_some];rfl
theorem EB (f:Nat->Bool):(Tryz.prog.info? 32).map (·.size)=some (AG f).length:=by rw[Au];exact Rj
theorem Dl (f:Nat->Bool):(Tryz.prog.info? 32).map (·.size)=some (AG f).toArray.size:=by rw[List.size_toArray,Au];exact Rj
theorem Ax {P:Program} {fn:Func} {p:Tmp} {ty:TypeId} {v:Value} (h:fn.results= #[.cell p ty]) (tmps:Array Value) (w:World) (a:Addr) (hp:tmps.getD p undef= .pointer (some a)) (hl:(loadVar ty a).run P w= .ok v w):
  (results fn tmps).run P w= .ok v w:=by
 have hp':tmps[p]?.getD undef= .pointer (some a):=by simpa [Array.getD_eq_getD_getElem?]using hp
 simp[results,h,hp',asAddr,hl]
set_option maxHeartbeats 400000
theorem FC (s:ByteArray) (hs:250<=s.size) (hm:s.size<=1024) (w:World):
  Calls Tryz.prog 158 #[.string s] w fun e w'=>e= .returned (.agg (AG (BO s)).toArray)/\Below w.heap.size w w':=by
 have hz:=Tryz.zeroValue32;go_enter Tryz.func158,Tryz.ntmps158;go_wp2_with fail;clear hz;go_loopw [4] (fun i wr=>∃k:Nat,k<=2000/\i= .int .i64 k/\Hid (JL w.heap.size (fun j=>decide (j<k) && BO s j) wr)/\Hid (Below w.heap.size w wr)) (fun i _=>2000-(intOf i).toNat)
 case atStart=>
  have hn:(w.alloc (.cells Tryz.zeroCells32 32)).heap[w.heap.size]? =some (.cells Tryz.zeroCells32 32):=heap_alloc_new w _;refine⟨0,by omega,rfl,⟨fun j hj=> ?_,fun j=>by simp only[World.frozen?,hn];simp⟩,(Below.refl _ _).alloc (Nat.le_refl _) _⟩;rw[cell_of_row _ _ _ _ _ _ hn,O7];have:=CE (fun _=>false) hj;simpa using this
 case round=>
  obtain⟨k,hk,rfl,HC,HB⟩:=hrel
  by_cases hlt:k<2000
  ·have h1:(k:Int)<2000:=by omega
   have h2:k / 8<s.size:=by omega
   have q:=HC.out.cell k hlt;have f:=HC.out.free k;have hbit:=Vk s k h2;go_wp2;go_roundw
   case rel=>
    refine⟨k+1,by omega,by go_num,⟨fun j hj=> ?_,fun j=>by rw[World.frozen?_setCell];exact HC.out.free j⟩,HB.out.setCell (p:=⟨w.heap.size,k,none⟩) (Nat.le_refl _) _⟩
    by_cases e:j=k
    ·subst e
     rw[World.cell?_setCell_same _ _ _ q];simp
    ·rw[World.cell?_setCell_other _ _ _ _ (fun e'=>e (by cases e';rfl)),HC.out.cell j hj]
     have:decide (j<k)=decide (j<k+1):=by simp;omega
     rw[this]
   case measure=>simp[intOf];omega
  ·have hk2:k=2000:=by omega
   have h1:(k:Int)=2000:=by omega
   have hr:wr.rangeAt w.heap.size 0 (AG (BO s)):=by
    rw[Fk (g:=fun j=>decide (j<k) && BO s j) (fun j hj=>by simp;omega)];exact HC.out.range
   have ht:wr.there w.heap.size 0 (AG (BO s)).toArray.size:=fun j hj=>by
    simp[Au]at hj;rw[Nat.zero_add];exact⟨by rw[HC.out.cell j hj];rfl,HC.out.free j⟩
   have hl2:=run_loadVar_mid (P:=Tryz.prog) (wr.setCells w.heap.size 0 (AG (BO s)).toArray.toList) w.heap.size 0 32 _ _ (World.rangeAt_setCells_same _ _ _ _ (by simpa using ht)) Tryz.underlying32 rfl (EB _);have hb:Hid (Below w.heap.size w (wr.setCells w.heap.size 0 (AG (BO s)).toArray.toList)):=Below.setCells' (Nat.le_refl _) _ _ _ HB.out;have hs1:=EB (BO s);have hs2:=Dl (BO s);have ho:=all_oneCell_toArray (CD (BO s));obtain⟨fs,hfs⟩:∃fs,AG (BO s)=fs:=⟨_,rfl⟩;rw[hfs]at hr ht hl2 hb hs1 hs2 ho;have HF:Hid (AG (BO s)=fs):=hfs;clear hfs;have HR:Hid _:=hr;have HT:Hid _:=ht;clear hr ht
   go_wp2_with (first|(refine wpList_load_mid rfl 32 _ rfl _ 0 rfl fs _ HR.out Tryz.underlying32 rfl hs1 ?_)|(refine wpList_store_mid rfl 32 _ _ rfl _ 0 fs.toArray rfl rfl HT.out hs2 ho ?_))
   exact bodyPost_ret (v:= .agg fs.toArray) (Ax Tryz.results158 _ _ _ rfl hl2) rfl ⟨by rw[HF.out],hb.out⟩
def Fa (k:Nat) (up:Bool):Nat:=if up then 2000+k else k
theorem KA (k:Nat) (hk:k<2000) (up:Bool) (w:World):
  Calls Tryz.prog 105 #[.int .i64 k,.bool up] w fun e w'=>e= .returned (.int .i64 (Fa k up))/\w'=w:=by
 go_enter Tryz.func105,Tryz.ntmps105
 cases up
 ·go_wp2
  go_ret;exact⟨rfl,rfl⟩
 ·go_wp2
  go_ret;exact⟨Gw (by simp[Fa]),rfl⟩
theorem CG (n b:Int) (w:World):
  Calls Tryz.prog 161 #[.int .i64 n,.int .i64 b] w fun e w'=>e= .returned (.bool (decide (0<=n) && decide (n<b)))/\w'=w:=by
 go_enter Tryz.func161,Tryz.ntmps161
 by_cases h0:0<=n
 ·go_wp2
  go_ret;exact⟨Cb (by simp[h0]),rfl⟩
 ·go_wp2
  go_ret;exact⟨Cb (by rw[decide_eq_false (show ¬0<=n by omega)];rfl),rfl⟩
theorem IR (i:Nat) (hi:i<8) (w:World):
  Calls Tryz.prog 160 #[.int .i64 i] w fun e w'=>e= .returned (.int .i64 (500+4 * (i:Int)))/\w'=w:=by
 go_enter Tryz.func160,Tryz.ntmps160;go_wp2;go_ret;exact⟨Gw (by go_num),rfl⟩
def EM (s:ByteArray) (k:Nat):Int:=((s.data.toList.getD k 0).toNat * 256+(s.data.toList.getD (k+1) 0).toNat:Nat)
theorem MH (s:ByteArray) (k:Nat):0<=EM s k/\EM s k<65536:=by
 unfold EM;have h1:=(s.data.toList.getD k 0).toNat_lt;have h2:=(s.data.toList.getD (k+1) 0).toNat_lt;omega
theorem Br (n:Int) (h₀:0<=n) (h₁:n<2 ^ 63):IntKind.i64.wrap n=n:=by rw[IntKind.wrap_i64];omega
theorem E4 (n:Int) (h0:0<=n) (h1:n<9223372036854775808):wrap64 n=n:=by simp only[wrap64];omega
theorem UG (a b:UInt8):bits BinOp.or IntKind.i64 (wrap64 (wrap64 (a.toNat:Int) * 256)) (wrap64 (b.toNat:Int))=((a.toNat * 256+b.toNat:Nat):Int):=by
 have h1:=a.toNat_lt;have h2:=b.toNat_lt;rw[E4 (a.toNat:Int) (by omega) (by omega),E4 (b.toNat:Int) (by omega) (by omega),E4 _ (by omega) (by omega),bits_join IntKind.i64 63 (by decide) Br 8 _ _ (by omega) (by omega) (by omega) (by omega) (by omega) (by omega)];omega
theorem EZ (s:ByteArray) (h2:2<=s.size) (w:World):
  Calls Tryz.prog 159 #[.string s] w fun e w'=>e= .returned (.int .i64 (EM s 0))/\∃n,w'=w.drewN n:=by
 have h0:0<s.size:=by omega
 have h1:1<s.size:=by omega
 have h1':(1:Int)<(s.size:Int):=by omega
 have h0':(0:Int)<(s.size:Int):=by omega
 go_enter Tryz.func159,Tryz.ntmps159;go_wp2;go_quiet (fail);go_wp2;go_ret
 have e0:s.data.toList.getD 0 0=s[0]:=by
  have hl:0<s.data.toList.length:=by simpa using h0
  rw[List.getD_eq_getElem?_getD,List.getElem?_eq_getElem hl];rfl
 have e1:s.data.toList.getD 1 0=s[1]:=by
  have hl:1<s.data.toList.length:=by simpa using h1
  rw[List.getD_eq_getElem?_getD,List.getElem?_eq_getElem hl];rfl
 refine⟨Gw ?_,_,rfl⟩;unfold EM;rw[e0,e1];exact UG _ _
theorem Ri:(Tryz.prog.info? 35).map (·.size)=some 16:=by kernel_rfl
def Gh:Array Value:= #[.int .i64 0,.int .i64 0,.int .i64 0,.int .i64 0,.int .i64 0,.int .i64 0,.int .i64 0,.int .i64 0,.int .i64 0,.int .i64 0,.int .i64 0,.int .i64 0,.int .i64 0,.int .i64 0,.int .i64 0,.int .i64 0]
theorem Nu:Gh=(BI (fun _=>0) (fun _=>0)).toArray:=by kernel_rfl
theorem N9 (a b:Nat->Int):(Tryz.prog.info? 35).map (·.size)=some (BI a b).length:=by rw[AZ];exact Ri
theorem Mp (a b:Nat->Int):(Tryz.prog.info? 35).map (·.size)=some (BI a b).toArray.size:=by rw[List.size_toArray,AZ];exact Ri
def AX (s:ByteArray) (k:Nat):Bool:=decide (0<k) && BO s k
def A7 (s:ByteArray) (k:Nat):Bool:=BO s (k+2000)
def Gs (s:ByteArray) (i:Nat):Int:=EM s (500+4 * i)
def FN (s:ByteArray) (i:Nat):Int:=EM s (502+4 * i)
theorem Si (s:ByteArray) (a b:Nat):(s.extract a b).data.toList=(s.data.toList.drop a).take (b-a):=by
 rw[ByteArray.data_extract,Array.toList_extract,List.extract_eq_take_drop]
theorem GC (s:ByteArray) (a b:Nat) (h:b<=s.size):(s.extract a b).size=b-a:=by
 rw[ByteArray.size_extract];omega
theorem GD (s:ByteArray) (a b k:Nat) (hk:a+k<b):(s.extract a b).data.toList.getD k 0=s.data.toList.getD (a+k) 0:=by
 rw[Si,List.getD_eq_getElem?_getD,List.getElem?_take_of_lt (by omega),List.getElem?_drop,<-List.getD_eq_getElem?_getD]
theorem QK (s:ByteArray) {k:Nat} (hk:k<2000):BO (s.extract 0 250) k=BO s k:=by
 unfold BO;rw[GD _ _ _ _ (by omega),Nat.zero_add]
theorem O2 (s:ByteArray) {k:Nat} (hk:k<2000):BO (s.extract 250 1024) k=A7 s k:=by
 unfold A7 BO;rw[GD _ _ _ _ (by omega),show 250+k / 8=(k+2000) / 8 by omega,show k % 8=(k+2000) % 8 by omega]
theorem KF (s:ByteArray) (a b:Nat) (h:a+1<b):EM (s.extract a b) 0=EM s a:=by
 unfold EM;rw[GD _ _ _ _ (by omega),GD _ _ _ _ (by omega),Nat.add_zero]
structure Em (B:Nat) (a b:Nat->Int) (w:World):Prop where
 cell:∀j,j<16->w.cell? ⟨B,j,none⟩=some (.int .i64 (if j % 2=0 then a (j / 2)else b (j / 2)))
 free:∀j,w.frozen? ⟨B,j,none⟩=false
theorem Em.range {B:Nat} {a b:Nat->Int} {w:World} (h:Em B a b w):w.rangeAt B 0 (BI a b):=fun j v hj=>by
 have hl:=(List.getElem?_eq_some_iff.1 hj).1;rw[AZ]at hl;rw[DF _ _ hl]at hj;rw[Nat.zero_add,h.cell j hl,hj]
theorem JL.block {B:Nat} {f:Nat->Bool} {w w':World} (h:JL B f w) (hb:w'.heap[B]? =w.heap[B]?):JL B f w':=
 ⟨fun k hk=>(World.cell?_of_block hb).trans (h.cell k hk),fun k=>(World.frozen?_of_block (a:=⟨B,k,none⟩) hb).trans (h.free k)⟩
theorem Em.block {B:Nat} {a b:Nat->Int} {w w':World} (h:Em B a b w) (hb:w'.heap[B]? =w.heap[B]?):Em B a b w':=
 ⟨fun k hk=>(World.cell?_of_block hb).trans (h.cell k hk),fun k=>(World.frozen?_of_block (a:=⟨B,k,none⟩) hb).trans (h.free k)⟩
theorem JL.there {B:Nat} {f:Nat->Bool} {w:World} (h:JL B f w) {n:Nat} (hn:n=2000):w.there B 0 n:=fun j hj=>by
 rw[Nat.zero_add];exact⟨by rw[h.cell j (by omega)];rfl,h.free j⟩
theorem Em.there {B:Nat} {a b:Nat->Int} {w:World} (h:Em B a b w) {n:Nat} (hn:n=16):w.there B 0 n:=fun j hj=>by
 rw[Nat.zero_add];exact⟨by rw[h.cell j (by omega)];rfl,h.free j⟩
structure H3 (w wr:World) (f g:Nat->Bool) (a b:Nat->Int):Prop where
 used:JL w.heap.size f wr
 upper:JL (w.heap.size+1) g wr
 roots:Em (w.heap.size+1+1) a b wr
 below:Below w.heap.size w wr
 size:w.heap.size+3<=wr.heap.size
section
variable {w wr wx:World} {f g:Nat->Bool} {a b:Nat->Int}
theorem H3.later (h:H3 w wr f g a b) (hb:Below wr.heap.size wr wx):H3 w wx f g a b:=by
 have:=h.size;exact⟨h.used.block (hb.block _ (by omega)),h.upper.block (hb.block _ (by omega)),h.roots.block (hb.block _ (by omega)),h.below.trans (hb.mono (by omega)),Nat.le_trans h.size hb.size⟩
theorem H3.drewN (h:H3 w wr f g a b) (n:Nat):H3 w (wr.drewN n) f g a b:=
 ⟨h.used.block rfl,h.upper.block rfl,h.roots.block rfl,h.below.trans ⟨rfl,rfl,rfl,Nat.le_refl _,fun _ _=>rfl⟩,h.size⟩
theorem H3.start (w:World):H3 w (((w.alloc (.cells Tryz.zeroCells32 32)).alloc (.cells Tryz.zeroCells32 32)).alloc (.cells Gh 35)) (fun _=>false) (fun _=>false) (fun _=>0) (fun _=>0):=by
 have hn1:(w.alloc (.cells Tryz.zeroCells32 32)).heap[w.heap.size]? =some (.cells Tryz.zeroCells32 32):=heap_alloc_new w _;have hs1:(w.alloc (.cells Tryz.zeroCells32 32)).heap.size=w.heap.size+1:=World.size_alloc _ _;have hn2:((w.alloc (.cells Tryz.zeroCells32 32)).alloc (.cells Tryz.zeroCells32 32)).heap[w.heap.size+1]? =some (.cells Tryz.zeroCells32 32):=by rw[<-hs1];exact heap_alloc_new _ _
 have hs2:((w.alloc (.cells Tryz.zeroCells32 32)).alloc (.cells Tryz.zeroCells32 32)).heap.size=w.heap.size+1+1:=by rw[World.size_alloc,hs1]
 have hn3:(((w.alloc (.cells Tryz.zeroCells32 32)).alloc (.cells Tryz.zeroCells32 32)).alloc (.cells Gh 35)).heap[w.heap.size+1+1]? =some (.cells Gh 35):=by rw[<-hs2];exact heap_alloc_new _ _
 have b1:Below w.heap.size w (w.alloc (.cells Tryz.zeroCells32 32)):=(Below.refl _ _).alloc (Nat.le_refl _) _;have b2:Below (w.heap.size+1) (w.alloc (.cells Tryz.zeroCells32 32)) ((w.alloc (.cells Tryz.zeroCells32 32)).alloc (.cells Tryz.zeroCells32 32)):=by rw[<-hs1];exact(Below.refl _ _).alloc (Nat.le_refl _) _
 have b3:Below (w.heap.size+1+1) ((w.alloc (.cells Tryz.zeroCells32 32)).alloc (.cells Tryz.zeroCells32 32)) (((w.alloc (.cells Tryz.zeroCells32 32)).alloc (.cells Tryz.zeroCells32 32)).alloc (.cells Gh 35)):=by rw[<-hs2];exact(Below.refl _ _).alloc (Nat.le_refl _) _
 have bits0:∀(B:Nat) (wz:World),wz.heap[B]? =some (.cells Tryz.zeroCells32 32)->JL B (fun _=>false) wz:=fun B wz hB=>by
  refine⟨fun j hj=> ?_,fun j=>by simp only[World.frozen?,hB];simp⟩;rw[cell_of_row _ _ _ _ _ _ hB,O7];have:=CE (fun _=>false) hj;simpa using this
 have c1:=bits0 _ _ hn1;have c2:=bits0 _ _ hn2;refine⟨(c1.block (b2.block _ (by omega))).block (b3.block _ (by omega)),c2.block (b3.block _ (by omega)),?_,b1.trans ((b2.mono (by omega)).trans (b3.mono (by omega))),by rw[World.size_alloc,hs2];omega⟩;refine⟨fun j hj=> ?_,fun j=>by simp only[World.frozen?,hn3];simp⟩;rw[cell_of_row _ _ _ _ _ _ hn3,Nu];have:=DF (fun _=>0) (fun _=>0) hj;simpa using this
theorem H3.store0 (h:H3 w wr f g a b) {f':Nat->Bool} {vs:List Value} (hv:vs=AG f'):H3 w (wr.setCells w.heap.size 0 vs) f' g a b:=by
 subst hv;have hs:=h.size;refine⟨⟨fun j hj=> ?_,fun j=>by rw[World.frozen?_setCells];exact h.used.free j⟩,⟨fun j hj=> ?_,fun j=>by rw[World.frozen?_setCells];exact h.upper.free j⟩,⟨fun j hj=> ?_,fun j=>by rw[World.frozen?_setCells];exact h.roots.free j⟩,Below.setCells' (Nat.le_refl _) _ _ _ h.below,Nat.le_trans hs (Below.setCells' (B:=0) (Nat.zero_le _) _ _ _ (Below.refl 0 wr)).size⟩
 ·have hj':j<(AG f').length:=by rw[Au];exact hj
  have:=World.cell?_setCells_in w.heap.size (AG f') 0 wr (fun i hi=>by rw[Au]at hi;rw[Nat.zero_add,h.used.cell i hi];rfl) j hj';rw[Nat.zero_add]at this;rw[this,<-List.getElem?_eq_getElem hj',CE _ hj]
 ·rw[World.cell?_setCells_out _ _ _ _ _ (fun e=>by simp only at e;omega),h.upper.cell j hj]
 ·rw[World.cell?_setCells_out _ _ _ _ _ (fun e=>by simp only at e;omega),h.roots.cell j hj]
theorem H3.store1 (h:H3 w wr f g a b) {g':Nat->Bool} {vs:List Value} (hv:vs=AG g'):H3 w (wr.setCells (w.heap.size+1) 0 vs) f g' a b:=by
 subst hv;have hs:=h.size;refine⟨⟨fun j hj=> ?_,fun j=>by rw[World.frozen?_setCells];exact h.used.free j⟩,⟨fun j hj=> ?_,fun j=>by rw[World.frozen?_setCells];exact h.upper.free j⟩,⟨fun j hj=> ?_,fun j=>by rw[World.frozen?_setCells];exact h.roots.free j⟩,Below.setCells' (by omega) _ _ _ h.below,Nat.le_trans hs (Below.setCells' (B:=0) (Nat.zero_le _) _ _ _ (Below.refl 0 wr)).size⟩
 ·rw[World.cell?_setCells_out _ _ _ _ _ (fun e=>by simp only at e;omega),h.used.cell j hj]
 ·have hj':j<(AG g').length:=by rw[Au];exact hj
  have:=World.cell?_setCells_in (w.heap.size+1) (AG g') 0 wr (fun i hi=>by rw[Au]at hi;rw[Nat.zero_add,h.upper.cell i hi];rfl) j hj';rw[Nat.zero_add]at this;rw[this,<-List.getElem?_eq_getElem hj',CE _ hj]
 ·rw[World.cell?_setCells_out _ _ _ _ _ (fun e=>by simp only at e;omega),h.roots.cell j hj]
theorem H3.store2 (h:H3 w wr f g a b) {a' b':Nat->Int} {vs:List Value} (hv:vs=BI a' b'):H3 w (wr.setCells (w.heap.size+1+1) 0 vs) f g a' b':=by
 subst hv;have hs:=h.size;refine⟨⟨fun j hj=> ?_,fun j=>by rw[World.frozen?_setCells];exact h.used.free j⟩,⟨fun j hj=> ?_,fun j=>by rw[World.frozen?_setCells];exact h.upper.free j⟩,⟨fun j hj=> ?_,fun j=>by rw[World.frozen?_setCells];exact h.roots.free j⟩,Below.setCells' (by omega) _ _ _ h.below,Nat.le_trans hs (Below.setCells' (B:=0) (Nat.zero_le _) _ _ _ (Below.refl 0 wr)).size⟩
 ·rw[World.cell?_setCells_out _ _ _ _ _ (fun e=>by simp only at e;omega),h.used.cell j hj]
 ·rw[World.cell?_setCells_out _ _ _ _ _ (fun e=>by simp only at e;omega),h.upper.cell j hj]
 ·have hj':j<(BI a' b').length:=by rw[AZ];exact hj
  have:=World.cell?_setCells_in (w.heap.size+1+1) (BI a' b') 0 wr (fun i hi=>by rw[AZ]at hi;rw[Nat.zero_add,h.roots.cell i hi];rfl) j hj';rw[Nat.zero_add]at this;rw[this,<-List.getElem?_eq_getElem hj',DF _ _ hj]
theorem H3.zero (h:H3 w wr f g a b):H3 w (wr.setCell ⟨w.heap.size,0,none⟩ (.bool false)) (fun k=>decide (0<k) && f k) g a b:=by
 have hs:=h.size;refine⟨⟨fun j hj=> ?_,fun j=>by rw[World.frozen?_setCell];exact h.used.free j⟩,⟨fun j hj=> ?_,fun j=>by rw[World.frozen?_setCell];exact h.upper.free j⟩,⟨fun j hj=> ?_,fun j=>by rw[World.frozen?_setCell];exact h.roots.free j⟩,h.below.setCell (p:=⟨w.heap.size,0,none⟩) (Nat.le_refl _) _,by rw[World.size_setCell];exact hs⟩
 ·by_cases e:j=0
  ·subst e
   rw[World.cell?_setCell_same _ _ _ (h.used.cell 0 hj)];rfl
  ·rw[World.cell?_setCell_other _ _ _ _ (fun e'=>e (by cases e';rfl)),h.used.cell j hj,decide_eq_true (show 0<j by omega)];rfl
 ·rw[World.cell?_setCell_other _ _ _ _ (fun e'=>by injection e' with e1 e2;omega),h.upper.cell j hj]
 ·rw[World.cell?_setCell_other _ _ _ _ (fun e'=>by injection e' with e1 e2;omega),h.roots.cell j hj]
theorem H3.root (h:H3 w wr f g a b) {k:Nat} {x y:Int} {a' b':Nat->Int} (h1:a' k=x) (h2:b' k=y) (h3:∀j,j≠k->a' j=a j) (h4:∀j,j≠k->b' j=b j):
  H3 w ((wr.setCell ⟨w.heap.size+1+1,k * 2,none⟩ (.int .i64 x)).setCell ⟨w.heap.size+1+1,k * 2+1,none⟩ (.int .i64 y)) f g a' b':=by
 have hs:=h.size;refine⟨⟨fun j hj=> ?_,fun j=>by rw[World.frozen?_setCell,World.frozen?_setCell];exact h.used.free j⟩,⟨fun j hj=> ?_,fun j=>by rw[World.frozen?_setCell,World.frozen?_setCell];exact h.upper.free j⟩,⟨fun j hj=> ?_,fun j=>by rw[World.frozen?_setCell,World.frozen?_setCell];exact h.roots.free j⟩,(h.below.setCell (p:=⟨w.heap.size+1+1,k * 2,none⟩) (by show w.heap.size<=w.heap.size+1+1;omega) _).setCell (p:=⟨w.heap.size+1+1,k * 2+1,none⟩) (by show w.heap.size<=w.heap.size+1+1;omega) _,by rw[World.size_setCell,World.size_setCell];exact hs⟩
 ·rw[World.cell?_setCell_other _ _ _ _ (fun e'=>by injection e' with e1 e2;omega),World.cell?_setCell_other _ _ _ _ (fun e'=>by injection e' with e1 e2;omega),h.used.cell j hj]
 ·rw[World.cell?_setCell_other _ _ _ _ (fun e'=>by injection e' with e1 e2;omega),World.cell?_setCell_other _ _ _ _ (fun e'=>by injection e' with e1 e2;omega),h.upper.cell j hj]
 ·by_cases e2:j=k * 2+1
  ·subst e2
   rw[World.cell?_setCell_same _ _ _ (by rw[World.cell?_setCell_other _ _ _ _ (fun e'=>by injection e' with e1 e2;omega)];exact h.roots.cell _ hj),if_neg (by omega),show(k * 2+1) / 2=k by omega,h2]
  ·rw[World.cell?_setCell_other _ _ _ _ (fun e'=>e2 (by injection e' with e1 e3;omega))]
   by_cases e1:j=k * 2
   ·subst e1
    rw[World.cell?_setCell_same _ _ _ (h.roots.cell _ hj),if_pos (by omega),show(k * 2) / 2=k by omega,h1]
   ·rw[World.cell?_setCell_other _ _ _ _ (fun e'=>e1 (by injection e' with e3 e4;omega)),h.roots.cell j hj]
    by_cases e:j % 2=0
    ·rw[if_pos e,if_pos e,h3 _ (by omega)]
    ·rw[if_neg e,if_neg e,h4 _ (by omega)]
theorem H3.drew (h:H3 w wr f g a b):H3 w wr.drew f g a b:=
 ⟨h.used.block rfl,h.upper.block rfl,h.roots.block rfl,h.below.trans ⟨rfl,rfl,rfl,Nat.le_refl _,fun _ _=>rfl⟩,h.size⟩
end
theorem IT {P:Program} {fn:Func} {p0 p1 p2:Tmp} {t0 t1 t2:TypeId} {v0 v1 v2:Value} (h:fn.results= #[.cell p0 t0,.cell p1 t1,.cell p2 t2]) (tmps:Array Value) (w:World) (a0 a1 a2:Addr)
  (hp0:tmps.getD p0 undef= .pointer (some a0)) (hp1:tmps.getD p1 undef= .pointer (some a1)) (hp2:tmps.getD p2 undef= .pointer (some a2))
  (hl0:(loadVar t0 a0).run P w= .ok v0 w) (hl1:(loadVar t1 a1).run P w= .ok v1 w) (hl2:(loadVar t2 a2).run P w= .ok v2 w):
  (results fn tmps).run P w= .ok (.tuple #[v0,v1,v2]) w:=by
 have e0:tmps[p0]?.getD undef= .pointer (some a0):=by simpa [Array.getD_eq_getD_getElem?]using hp0
 have e1:tmps[p1]?.getD undef= .pointer (some a1):=by simpa [Array.getD_eq_getD_getElem?]using hp1
 have e2:tmps[p2]?.getD undef= .pointer (some a2):=by simpa [Array.getD_eq_getD_getElem?]using hp2
 simp[results,h,e0,e1,e2,asAddr,hl0,hl1,hl2]
set_option maxHeartbeats 1600000
theorem L5 (s:ByteArray) (hs:s.size=1024) (w:World):
  Calls Tryz.prog 106 #[.string s] w fun e w'=>e= .returned (.tuple #[.agg (AG (AX s)).toArray,.agg (AG (A7 s)).toArray,.agg (BI (Gs s) (FN s)).toArray])/\Below w.heap.size w w':=by
 have hz:=Tryz.zeroValue32;have hz3:=Tryz.zeroValue35;have h250:250<=s.size:=by omega
 go_enter Tryz.func106,Tryz.ntmps106;go_wp2_with fail;clear hz hz3;have h0:=H3.start w;have e1:(s.extract 0 250).size=250:=by rw[GC _ _ _ (by omega)]
 have e2:(s.extract 250 1024).size=774:=by rw[GC _ _ _ (by omega)]
 refine(FC (s.extract 0 250) (by omega) (by omega) _).mono ?_;rintro _ w1 ⟨rfl,hb1⟩;have h1:H3 w w1 _ _ _ _:=h0.later hb1;clear h0 hb1;obtain⟨fs,hfs⟩:∃fs,AG (BO (s.extract 0 250))=fs:=⟨_,rfl⟩;rw[hfs];have hs2:(Tryz.prog.info? 32).map (·.size)=some fs.toArray.size:=by rw[<-hfs];exact Dl _
 have ho:=all_oneCell_toArray (show ∀v∈fs,v.oneCell'=true by rw[<-hfs];exact CD _);have HT:Hid (w1.there w.heap.size 0 fs.toArray.size):=h1.used.there (by rw[<-hfs,List.size_toArray,Au]);have h2:H3 w (w1.setCells w.heap.size 0 fs) (BO s) _ _ _:=h1.store0 (by rw[<-hfs];exact Fk fun k hk=>QK s hk);have q0:=h2.used.cell 0 (by omega);have f0:=h2.used.free 0;have H2:Hid _:=h2;clear h2 h1 hfs
 go_wp2_with (refine wpList_store_mid rfl 32 _ _ rfl _ 0 fs.toArray rfl rfl HT.out hs2 ho ?_)
 clear q0 f0 HT ho hs2;have h3:=H2.out.zero;clear H2;refine(FC (s.extract 250 1024) (by omega) (by omega) _).mono ?_;rintro _ w2 ⟨rfl,hb2⟩;have h4:H3 w w2 _ _ _ _:=h3.later hb2;clear h3 hb2;obtain⟨gs,hgs⟩:∃gs,AG (BO (s.extract 250 1024))=gs:=⟨_,rfl⟩;rw[hgs];have hs2:(Tryz.prog.info? 32).map (·.size)=some gs.toArray.size:=by rw[<-hgs];exact Dl _
 have ho:=all_oneCell_toArray (show ∀v∈gs,v.oneCell'=true by rw[<-hgs];exact CD _);have HT:Hid (w2.there (w.heap.size+1) 0 gs.toArray.size):=h4.upper.there (by rw[<-hgs,List.size_toArray,Au]);have H5:Hid (H3 w (w2.setCells (w.heap.size+1) 0 gs) (AX s) (A7 s) (fun _=>0) (fun _=>0)):=h4.store1 (by rw[<-hgs];exact Fk fun k hk=>O2 s hk);clear h4 hgs
 go_wp2_with (refine wpList_store_mid rfl 32 _ _ rfl _ 0 gs.toArray rfl rfl HT.out hs2 ho ?_)
 clear HT hs2 ho e1 e2;go_loopw [13] (fun i wr=>∃k:Nat,k<=8/\i= .int .i64 k/\Hid (H3 w wr (AX s) (A7 s) (fun j=>if j<k then Gs s j else 0) (fun j=>if j<k then FN s j else 0))) (fun i _=>8-(intOf i).toNat)
 case atStart=>
  exact⟨0,by omega,rfl,by simpa using H5⟩
 case round=>
  obtain⟨k,hk,rfl,HC⟩:=hrel
  by_cases hlt:k<8
  ·have h1:(k:Int)<8:=by omega
   have g1:(500+4 * (k:Int))<=(s.size:Int):=by omega
   have g2:(500+4 * (k:Int)+2)<=(s.size:Int):=by omega
   go_wp2_with fail;refine(IR k hlt _).mono ?_;rintro _ wa ⟨rfl,hw⟩;subst wa;go_wp2_with fail;refine(EZ (s.extract (500+4 * k) 1024) (by rw[GC _ _ _ (by omega)];omega) _).mono ?_;rintro _ wa ⟨rfl,n1,hw⟩;subst wa;rw[KF _ _ _ (by omega)];go_wp2_with fail;refine(IR k hlt _).mono ?_;rintro _ wa ⟨rfl,hw⟩;subst wa;go_wp2_with fail;refine(EZ (s.extract (500+4 * k+2) 1024) (by rw[GC _ _ _ (by omega)];omega) _).mono ?_;rintro _ wa ⟨rfl,n2,hw⟩;rw[KF _ _ _ (by omega)]
   have HX:Hid (H3 w wa (AX s) (A7 s) (fun j=>if j<k then Gs s j else 0) (fun j=>if j<k then FN s j else 0)):=by
    rw[hw];exact(HC.out.drewN n1).drewN n2
   clear HC hw;have f1:=HX.out.roots.free (k * 2);have f2:=HX.out.roots.free (k * 2+1);have q1:=HX.out.roots.cell (k * 2) (by omega);have q2:=HX.out.roots.cell (k * 2+1) (by omega);go_wp2;go_roundw
   case rel=>
    refine⟨k+1,by omega,by go_num,HX.out.root ?_ ?_ ?_ ?_⟩
    ·show(if k<k+1 then Gs s k else 0)=_
     rw[if_pos (by omega)];rfl
    ·show(if k<k+1 then FN s k else 0)=_
     rw[if_pos (by omega),FN,show 502+4 * k=500+4 * k+2 by omega]
    ·intro j hj
     show(if j<k+1 then Gs s j else 0)=if j<k then Gs s j else 0
     by_cases e:j<k
     ·rw[if_pos e,if_pos (by omega)]
     ·rw[if_neg e,if_neg (by omega)]
    ·intro j hj
     show(if j<k+1 then FN s j else 0)=if j<k then FN s j else 0
     by_cases e:j<k
     ·rw[if_pos e,if_pos (by omega)]
     ·rw[if_neg e,if_neg (by omega)]
   case measure=>simp[intOf];omega
  ·have h1:(k:Int)=8:=by omega
   go_wp2_with fail;clear H5;have hk8:k=8:=by omega
   have HX:Hid (H3 w wr (AX s) (A7 s) (Gs s) (FN s)):=by
    have h9:=HC.out;refine⟨h9.used,h9.upper,⟨fun j hj=> ?_,h9.roots.free⟩,h9.below,h9.size⟩;rw[h9.roots.cell j hj,if_pos (show j / 2<k by omega),if_pos (show j / 2<k by omega)]
   clear HC;obtain⟨A,hA⟩:∃A,Gs s=A:=⟨_,rfl⟩;obtain⟨B,hB⟩:∃B,FN s=B:=⟨_,rfl⟩;rw[hA,hB]at HX;obtain⟨F,hF⟩:∃F,AG (AX s)=F:=⟨_,rfl⟩;obtain⟨G,hG⟩:∃G,AG (A7 s)=G:=⟨_,rfl⟩;obtain⟨R,hR⟩:∃R,BI A B=R:=⟨_,rfl⟩;have hsF:(Tryz.prog.info? 32).map (·.size)=some F.length:=by rw[<-hF];exact EB _
   have hsG:(Tryz.prog.info? 32).map (·.size)=some G.length:=by rw[<-hG];exact EB _
   have hsR:(Tryz.prog.info? 35).map (·.size)=some R.length:=by rw[<-hR];exact N9 _ _
   have hoF:=all_oneCell_toArray (show ∀v∈F,v.oneCell'=true by rw[<-hF];exact CD _);have hoG:=all_oneCell_toArray (show ∀v∈G,v.oneCell'=true by rw[<-hG];exact CD _);have hoR:=all_oneCell_toArray (show ∀v∈R,v.oneCell'=true by rw[<-hR];exact FM _ _);have lF:F.toArray.size=2000:=by rw[<-hF,List.size_toArray,Au]
   have lG:G.toArray.size=2000:=by rw[<-hG,List.size_toArray,Au]
   have lR:R.toArray.size=16:=by rw[<-hR,List.size_toArray,AZ]
   have rF:∀wx,H3 w wx (AX s) (A7 s) A B->wx.rangeAt w.heap.size 0 F:=fun wx h=>by rw[<-hF];exact h.used.range
   have rG:∀wx,H3 w wx (AX s) (A7 s) A B->wx.rangeAt (w.heap.size+1) 0 G:=fun wx h=>by rw[<-hG];exact h.upper.range
   have rR:∀wx,H3 w wx (AX s) (A7 s) A B->wx.rangeAt (w.heap.size+1+1) 0 R:=fun wx h=>by rw[<-hR];exact h.roots.range
   have sF:∀wx,H3 w wx (AX s) (A7 s) A B->H3 w (wx.setCells w.heap.size 0 F.toArray.toList) (AX s) (A7 s) A B:=fun wx h=>h.store0 hF.symm;have sG:∀wx,H3 w wx (AX s) (A7 s) A B->H3 w (wx.setCells (w.heap.size+1) 0 G.toArray.toList) (AX s) (A7 s) A B:=fun wx h=>h.store1 hG.symm;have sR:∀wx,H3 w wx (AX s) (A7 s) A B->H3 w (wx.setCells (w.heap.size+1+1) 0 R.toArray.toList) (AX s) (A7 s) A B:=fun wx h=>h.store2 hR.symm;have hend:∀wx,H3 w wx (AX s) (A7 s) A B->Hid (Below w.heap.size w wx):=fun wx h=>h.below;have HE:Hid (AG (AX s)=F/\AG (A7 s)=G/\BI (Gs s) (FN s)=R):=⟨hF,hG,by rw[hA,hB,hR]⟩;clear hF hG hA hB hR h1 hk8;refine wp_region_held_drew (S:=fun wx=>H3 w wx (AX s) (A7 s) A B) (by kernel_rfl) HX.out.drew ?_;intro g0;refine wpAnyH_take (i:=0) rfl (by kernel_rfl) (by kernel_rfl) (by kernel_rfl) (fun _ _ _ h=>h) (yieldsIf_load_mid (by rfl) 32 _ rfl _ 0 rfl F _ (fun wx h=>rF wx h) Tryz.underlying32 rfl hsF) g0 ?_;simp only[Act.put,List.setIfInBounds_toArray];refine wpAnyH_take (i:=1) rfl (by kernel_rfl) (by kernel_rfl) (by kernel_rfl) (fun _ _ _ h=>h) (yieldsIf_load_mid (by rfl) 32 _ rfl _ 0 rfl G _ (fun wx h=>rG wx h) Tryz.underlying32 rfl hsG) g0 ?_;simp only[Act.put];refine wpAnyH_take (i:=2) rfl (by kernel_rfl) (by kernel_rfl) (by kernel_rfl) (fun _ _ _ h=>h) (yieldsIf_load_mid (by rfl) 35 _ rfl _ 0 rfl R _ (fun wx h=>rR wx h) Tryz.underlying35 rfl hsR) g0 ?_;simp only[Act.put];refine wpAnyH_ready (rs:=[3]) (by kernel_rfl) (by decide) (AllReadyH.cons rfl (fun K hK=> ?_) AllReadyH.nil);rw[if_pos (by rfl)];refine wp_store_mid 32 _ _ rfl _ 0 F.toArray rfl rfl (g0.used.there lF) (by rw[List.size_toArray];exact hsF) hoF ?_;have g1:=sF _ g0;refine hK.out _ _ g1 (fun _=> ?_);clear hK K;simp only[Act.put];refine wpAnyH_ready (rs:=[4]) (by kernel_rfl) (by decide) (AllReadyH.cons rfl (fun K hK=> ?_) AllReadyH.nil);rw[if_pos (by rfl)];refine wp_store_mid 32 _ _ rfl _ 0 G.toArray rfl rfl (g1.upper.there lG) (by rw[List.size_toArray];exact hsG) hoG ?_;have g2:=sG _ g1;refine hK.out _ _ g2 (fun _=> ?_);clear hK K;simp only[Act.put];refine wpAnyH_ready (rs:=[5]) (by kernel_rfl) (by decide) (AllReadyH.cons rfl (fun K hK=> ?_) AllReadyH.nil);rw[if_pos (by rfl)];refine wp_store_mid 35 _ _ rfl _ 0 R.toArray rfl rfl (g2.roots.there lR) (by rw[List.size_toArray];exact hsR) hoR ?_;have g3:=sR _ g2;refine hK.out _ _ g3 (fun _=> ?_);clear hK K;simp only[Act.put];refine wpAnyH_done (by kernel_rfl) ?_ _;generalize ((wr.drew.setCells w.heap.size 0 F.toArray.toList).setCells (w.heap.size+1) 0 G.toArray.toList).setCells (w.heap.size+1+1) 0 R.toArray.toList=wz at *;have l0:=run_loadVar_mid (P:=Tryz.prog) wz w.heap.size 0 32 F _ (rF _ g3) Tryz.underlying32 rfl hsF;have l1:=run_loadVar_mid (P:=Tryz.prog) wz (w.heap.size+1) 0 32 G _ (rG _ g3) Tryz.underlying32 rfl hsG;have l2:=run_loadVar_mid (P:=Tryz.prog) wz (w.heap.size+1+1) 0 35 R _ (rR _ g3) Tryz.underlying35 rfl hsR;have HB:=hend _ g3;clear rF rG rR sF sG sR hend g0 g1 g2 g3;go_wp2_with fail;exact bodyPost_ret (v:= .tuple #[.agg F.toArray,.agg G.toArray,.agg R.toArray]) (IT Tryz.results106 _ _ _ _ _ rfl rfl rfl l0 l1 l2) rfl ⟨by rw[HE.out.1,HE.out.2.1,HE.out.2.2],HB.out⟩
end
end Go.Proofs.YtihnldkgeelehaaGreatDoor
