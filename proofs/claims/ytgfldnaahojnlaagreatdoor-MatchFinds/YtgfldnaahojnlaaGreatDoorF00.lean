/- MatchFinds: part 0. -/
import Derived.Test.YtgfldnaahojnlaaGreatDoorProg
import Derived.WalkKit
import Derived.WalkSpells
import Derived.WalkLawsBesides
import Derived.Deep.RegionHeld3
import Derived.Maps.OwnSet
import Derived.Deep.MidRow
import Derived.Maps.Ext
import Derived.Maps.OwnOps
import Derived.Maps.StringElems
import Derived.BigQuiet
import Derived.Laws.BitsLemmas
import Derived.Deep.QuietTactic
set_option maxRecDepth 100000
set_option maxHeartbeats 4000000
namespace Go.Proofs.YtgfldnaahojnlaaGreatDoor
section
open Go.RowKit
theorem Hx {k:IntKind} {a b:Int} (h:a=b):Ending.returned (.int k a)= .returned (.int k b):=by rw[h]
theorem Fj {a b:Bool} (h:a=b):Ending.returned (.bool a)= .returned (.bool b):=by rw[h]
theorem Tryz.own:ownKnob Tryz.prog.godebug=none:=by kernel_rfl
theorem Tryz.laidOut:laidOutB Tryz.prog=true:=by kernel_rfl
theorem Yi:Tryz.prog.cellsOf 9=1:=by kernel_rfl
theorem UP:(Tryz.prog.info? 5).map (fun i=>(i.zero,i.size,i.bytes))=some (some (.int .u8 0),1,1):=by kernel_rfl
theorem Below.setCells' {B b:Nat} {a:World} (hB:B<=b):∀(vs:List Value) (o:Nat) (w:World),Below B a w->Below B a (w.setCells b o vs)
 | [],_,_,h=>h
 |v::r,o,_,h=>Below.setCells' hB r (o+1) _ (h.setCell (p:=⟨b,o,none⟩) hB v)
end
section
open Go.RowKit Go.Maps
structure Aa (S:Nat->Prop) (w w':World):Prop where
 os:w'.os=w.os
 tape:w'.tape=w.tape
 output:w'.output=w.output
 size:w.heap.size<=w'.heap.size
 block:∀k,k<w.heap.size->¬S k->w'.heap[k]? =w.heap[k]?
theorem Aa.refl (S:Nat->Prop) (w:World):Aa S w w:=⟨rfl,rfl,rfl,Nat.le_refl _,fun _ _ _=>rfl⟩
theorem Aa.of_below {S:Nat->Prop} {w w':World} (h:Below w.heap.size w w'):Aa S w w':=⟨h.os,h.tape,h.output,h.size,fun k hk _=>h.block k hk⟩
theorem Aa.of_grown {S:Nat->Prop} {w w':World} {b:Nat} (h:w.grownBy w' (some b)) (hb:S b):Aa S w w':=
 ⟨h.os,h.tape,h.output,h.size,fun k hk hs=>h.block k hk (fun e=>hs (by cases e;exact hb))⟩
theorem Aa.trans {S T:Nat->Prop} {w w' w'':World} (h:Aa S w w') (k:Aa T w' w'') (hT:∀i,T i->S i\/w.heap.size<=i):Aa S w w'':=
 ⟨k.os.trans h.os,k.tape.trans h.tape,k.output.trans h.output,Nat.le_trans h.size k.size,fun i hi hs=>(k.block i (Nat.lt_of_lt_of_le hi h.size) (fun ht=>by
   rcases hT i ht with h1|h1
   ·exact hs h1
   ·omega)).trans (h.block i hi hs)⟩
theorem Aa.mono {S T:Nat->Prop} {w w':World} (h:Aa S w w') (hT:∀i,S i->T i):Aa T w w':=
 ⟨h.os,h.tape,h.output,h.size,fun i hi hs=>h.block i hi (fun k=>hs (hT i k))⟩
theorem Aa.drew {S:Nat->Prop} {w w':World} (h:Aa S w w'):Aa S w w'.drew:=⟨h.os,h.tape,h.output,h.size,h.block⟩
theorem Aa.cell {S:Nat->Prop} {w w':World} (h:Aa S w w') {b:Nat} (hb:b<w.heap.size) (hs:¬S b) (o:Nat):w'.cell? ⟨b,o,none⟩=w.cell? ⟨b,o,none⟩:=World.cell?_of_block (h.block b hb hs)
theorem Aa.below {S:Nat->Prop} {B:Nat} {a w w':World} (h:Below B a w) (k:Aa S w w') (hB:B<=w.heap.size) (hS:∀i,S i->B<=i):Below B a w':=
 ⟨k.os.trans h.os,k.tape.trans h.tape,k.output.trans h.output,Nat.le_trans h.size k.size,fun i hi=>(k.block i (by omega) (fun hs=>by have:=hS i hs;omega)).trans (h.block i hi)⟩
def Bb (f:Nat->Bool):List Value:=(List.range 2000).map fun k=> .bool (f k)
def Cv (rp rn:Nat->Int):List Value:=(List.range 16).map fun k=> .int .i64 (if k % 2=0 then rp (k / 2)else rn (k / 2))
theorem Ba (f:Nat->Bool):(Bb f).length=2000:=by simp[Bb]
theorem C4 (rp rn:Nat->Int):(Cv rp rn).length=16:=by simp[Cv]
theorem DH (f:Nat->Bool) {k:Nat} (hk:k<2000):(Bb f)[k]? =some (.bool (f k)):=by
 simp[Bb,List.getElem?_map,List.getElem?_range hk]
theorem F6 (rp rn:Nat->Int) {k:Nat} (hk:k<16):(Cv rp rn)[k]? =some (.int .i64 (if k % 2=0 then rp (k / 2)else rn (k / 2))):=by
 simp[Cv,List.getElem?_map,List.getElem?_range hk]
theorem Gf {f g:Nat->Bool} (h:∀k,k<2000->f k=g k):Bb f=Bb g:=
 List.map_congr_left fun k hk=>by rw[h k (List.mem_range.1 hk)]
theorem DG (f:Nat->Bool):∀v∈Bb f,v.oneCell'=true:=fun v hv=>by
 obtain⟨k,_,rfl⟩:=List.mem_map.1 hv;rfl
theorem JC (rp rn:Nat->Int):∀v∈Cv rp rn,v.oneCell'=true:=fun v hv=>by
 obtain⟨k,_,rfl⟩:=List.mem_map.1 hv;rfl
structure Pg where
 upper:Nat->Bool
 used:Nat->Bool
 rp:Nat->Int
 rn:Nat->Int
 chg:Nat->Option ByteArray
 commits:Int
 down:Bool
def Di (p:Pg) (bd bm:Nat) (k:Nat):Value:=
 if k=0 then .pointer (some ⟨bd,0,none⟩)else if k<2001 then .bool (p.upper (k-1))else if k<4001 then .bool (p.used (k-2001))
 else if k<4017 then .int .i64 (if(k-4001) % 2=0 then p.rp ((k-4001) / 2)else p.rn ((k-4001) / 2))
 else if k=4017 then .map (some bm)else if k=4018 then .int .i64 p.commits else .bool p.down
theorem Ip (p:Pg) (bd bm:Nat) {k:Nat} (hk:k<2000):Di p bd bm (1+k)= .bool (p.upper k):=by
 unfold Di;rw[if_neg (by omega),if_pos (by omega)];simp[Nat.add_comm 1 k]
theorem Dn (p:Pg) (bd bm:Nat) {k:Nat} (hk:k<2000):Di p bd bm (2001+k)= .bool (p.used k):=by
 unfold Di;rw[if_neg (by omega),if_neg (by omega),if_pos (by omega),show 2001+k-2001=k by omega]
theorem CF (p:Pg) (bd bm:Nat) {k:Nat} (hk:k<16):Di p bd bm (4001+k)= .int .i64 (if k % 2=0 then p.rp (k / 2)else p.rn (k / 2)):=by
 unfold Di;rw[if_neg (by omega),if_neg (by omega),if_neg (by omega),if_pos (by omega),show 4001+k-4001=k by omega]
theorem FH (p:Pg) (bd bm:Nat):Di p bd bm 4017= .map (some bm):=rfl
theorem Fa (p:Pg) (bd bm:Nat):Di p bd bm 4019= .bool p.down:=rfl
structure CJ (bp bd bm:Nat) (p:Pg) (w:World):Prop where
 cell:∀k,k<4020->w.cell? ⟨bp,k,none⟩=some (Di p bd bm k)
 free:∀k,w.frozen? ⟨bp,k,none⟩=false
section
variable {bp bd bm n:Nat} {p:Pg} {w w':World}
theorem CJ.lt (h:CJ bp bd bm p w):bp<w.heap.size:=World.block_lt_of_cell? w _ (h.cell 0 (by omega))
theorem CJ.block (h:CJ bp bd bm p w) (hb:w'.heap[bp]? =w.heap[bp]?):CJ bp bd bm p w':=
 ⟨fun k hk=>(World.cell?_of_block hb).trans (h.cell k hk),fun k=>(World.frozen?_of_block (a:=⟨bp,k,none⟩) hb).trans (h.free k)⟩
end
def D9:Value->Option (DataW Unit×List MemPlace)
 | .agg cs=>match cs.toList with
   | [.string s]=>some (.lit (.string s.data.toList),[])
   |_=>none
 |_=>none
theorem Me (s:ByteArray):D9 (.agg #[.string s])=some (.lit (.string s.data.toList),[]):=rfl
theorem KO {v:Value} {z:DataW Unit×List MemPlace} (h:D9 v=some z):∃s:ByteArray,v= .agg #[.string s]/\z=(.lit (.string s.data.toList),[]):=by
 unfold D9 at h;split at h
 ·rename_i cs
  split at h
  ·rename_i s hs
   cases h
   refine⟨s,?_,rfl⟩
   have:cs= #[.string s]:=by
    apply Array.toList_inj.1;rw[hs]
   rw[this]
  ·cases h
 ·cases h
structure Jf (D:DataW Unit) (f:Nat->Option ByteArray):Prop where
 isMap:IsMap D
 key:∀l,Maps.has D l=true->∃k:Nat,l= .int .i64 k/\k<2000
 has:∀k:Nat,k<2000->Maps.has D (.int .i64 k)=(f k).isSome
 elem:∀(k:Nat) (s:ByteArray),k<2000->f k=some s->∀z,D.atKey (.int .i64 k) z= .lit (.string s.data.toList)
 small:∀(k:Nat) (s:ByteArray),f k=some s->k<2000/\s.size=1024
def put (f:Nat->Option ByteArray) (k:Nat) (s:Option ByteArray):Nat->Option ByteArray:=fun i=>if i=k then s else f i
theorem Xz (k:Nat) (hk:k<4001):(Lit.int .i64 (k:Int)).wf=true:=WalkArith.wf_i64 (by omega)
theorem M4 {i k:Nat} (h:i≠k):(Lit.int .i64 (i:Int))≠ .int .i64 k:=fun e=>h (by injection e with e1 e2;omega)
theorem Xo (k:Nat):WideAt.IsKeyLit (Lit.int .i64 (k:Int)):=trivial
theorem BF:Keyed Tryz.prog 3:=int_keyed Tryz.underlying3
theorem NU:Jf (.map []) (fun _=>none):=
 ⟨isMap_empty,fun l h=>by simp[Maps.has]at h,fun k _=>rfl,fun k s _ h=>(by cases h),fun k s h=>(by cases h)⟩
theorem Jf.put {D:DataW Unit} {f:Nat->Option ByteArray} (h:Jf D f) (k:Nat) (hk:k<2000) (s:ByteArray) (hs:s.size=1024):Jf (D.put (.int .i64 k) (.lit (.string s.data.toList))) (put f k (some s)):=by
 refine⟨h.isMap.put _ _,fun l hl=> ?_,fun i hi=> ?_,fun i t hi ht z=> ?_,fun i t ht=> ?_⟩
 ·by_cases e:l= .int .i64 k
  ·exact⟨k,e,hk⟩
  ·rw[has_put_other e]at hl
   exact h.key l hl
 ·by_cases e:i=k
  ·subst e;rw[has_put_same h.isMap (Xo i)];simp[Go.Proofs.YtgfldnaahojnlaaGreatDoor.put]
  ·rw[has_put_other (M4 e),h.has i hi];simp[Go.Proofs.YtgfldnaahojnlaaGreatDoor.put,e]
 ·by_cases e:i=k
  ·subst e
   rw[atKey_put_same h.isMap (Xo i)];simp[Go.Proofs.YtgfldnaahojnlaaGreatDoor.put]at ht;rw[ht]
  ·rw[atKey_put_other (M4 e)]
   exact h.elem i t hi (by simpa [Go.Proofs.YtgfldnaahojnlaaGreatDoor.put,e]using ht) z
 ·by_cases e:i=k
  ·subst e
   simp[Go.Proofs.YtgfldnaahojnlaaGreatDoor.put]at ht;rw[<-ht];exact⟨hk,hs⟩
  ·exact h.small i t (by simpa [Go.Proofs.YtgfldnaahojnlaaGreatDoor.put,e]using ht)
theorem Jf.del {D:DataW Unit} {f:Nat->Option ByteArray} (h:Jf D f) (k:Nat):Jf (D.del (.int .i64 k)) (Go.Proofs.YtgfldnaahojnlaaGreatDoor.put f k none):=by
 refine⟨h.isMap.del _,fun l hl=> ?_,fun i hi=> ?_,fun i t hi ht z=> ?_,fun i t ht=> ?_⟩
 ·by_cases e:l= .int .i64 k
  ·rw[e,has_del_same]at hl;cases hl
  ·rw[has_del_other e]at hl
   exact h.key l hl
 ·by_cases e:i=k
  ·subst e;rw[has_del_same];simp[Go.Proofs.YtgfldnaahojnlaaGreatDoor.put]
  ·rw[has_del_other (M4 e),h.has i hi];simp[Go.Proofs.YtgfldnaahojnlaaGreatDoor.put,e]
 ·by_cases e:i=k
  ·subst e
   simp[Go.Proofs.YtgfldnaahojnlaaGreatDoor.put]at ht
  ·rw[atKey_del_other (M4 e)]
   exact h.elem i t hi (by simpa [Go.Proofs.YtgfldnaahojnlaaGreatDoor.put,e]using ht) z
 ·by_cases e:i=k
  ·subst e
   simp[Go.Proofs.YtgfldnaahojnlaaGreatDoor.put]at ht
  ·exact h.small i t (by simpa [Go.Proofs.YtgfldnaahojnlaaGreatDoor.put,e]using ht)
def BH (m n:Nat) (f:Nat->Option ByteArray) (w:World):Prop:=∃D:DataW Unit,w.ownsMap Tryz.prog 3 D9 m n D/\Jf D f
theorem BH.lt {m n:Nat} {f:Nat->Option ByteArray} {w:World} (h:BH m n f w):m<w.heap.size:=by obtain⟨D,hD,_⟩:=h;exact hD.lt
theorem BH.block {m n:Nat} {f:Nat->Option ByteArray} {w w':World} (h:BH m n f w) (hb:w'.heap[m]? =w.heap[m]?):BH m n f w':=by
 obtain⟨D,⟨es,clock,hm,F,hs,hD⟩,hM⟩:=h;exact⟨D,⟨es,clock,hb.trans hm,F,hs,hD⟩,hM⟩
theorem BH.only {S:Nat->Prop} {m n:Nat} {f:Nat->Option ByteArray} {w w':World} (h:BH m n f w) (ho:Aa S w w') (hs:¬S m):BH m n f w':=h.block (ho.block m h.lt hs)
theorem BH.mono {m n n':Nat} {f:Nat->Option ByteArray} {w:World} (h:BH m n f w) (hn:n<=n'):BH m n' f w:=by
 obtain⟨D,hD,hM⟩:=h;exact⟨D,hD.mono hn,hM⟩
theorem BH.ne_cell {m n:Nat} {f:Nat->Option ByteArray} {w:World} (h:BH m n f w) {b o:Nat} {v:Value} (hc:w.cell? ⟨b,o,none⟩=some v):m≠b:=by
 obtain⟨D,⟨es,clock,hm,_⟩,_⟩:=h;intro e;subst e;simp[World.cell?,hm]at hc
structure Ar (bp bd bm n:Nat) (p:Pg) (w:World):Prop where
 cells:CJ bp bd bm p w
 own:BH bm n p.chg w
section
variable {bp bd bm n:Nat} {p:Pg} {w w':World}
theorem Ar.ne (h:Ar bp bd bm n p w):bm≠bp:=h.own.ne_cell (h.cells.cell 0 (by omega))
theorem Ar.lt (h:Ar bp bd bm n p w):bp<w.heap.size:=h.cells.lt
theorem Ar.mlt (h:Ar bp bd bm n p w):bm<w.heap.size:=h.own.lt
theorem Ar.only {S:Nat->Prop} (h:Ar bp bd bm n p w) (ho:Aa S w w') (h1:¬S bp) (h2:¬S bm):Ar bp bd bm n p w':=⟨h.cells.block (ho.block bp h.lt h1),h.own.only ho h2⟩
theorem Ar.below (h:Ar bp bd bm n p w) (hb:Below w.heap.size w w'):Ar bp bd bm n p w':=h.only (Aa.of_below (S:=fun _=>False) hb) (fun e=>e) (fun e=>e)
theorem Ar.drew (h:Ar bp bd bm n p w):Ar bp bd bm n p w.drew:=⟨h.cells.block rfl,h.own.block rfl⟩
theorem Ar.mono (h:Ar bp bd bm n p w) {n':Nat} (hn:n<=n'):Ar bp bd bm n' p w:=⟨h.cells,h.own.mono hn⟩
end
theorem TG:(Tryz.prog.info? 110).map (·.size)=some 2000:=by kernel_rfl
theorem Qi:Tryz.zeroCells110=(Bb fun _=>false).toArray:=by kernel_rfl
def Cm (s:ByteArray) (k:Nat):Bool:=(s.data.toList.getD (k / 8) 0).toNat.testBit (k % 8)
structure KK (B:Nat) (f:Nat->Bool) (w:World):Prop where
 cell:∀j,j<2000->w.cell? ⟨B,j,none⟩=some (.bool (f j))
 free:∀j,w.frozen? ⟨B,j,none⟩=false
theorem KK.range {B:Nat} {f:Nat->Bool} {w:World} (h:KK B f w):w.rangeAt B 0 (Bb f):=fun j v hj=>by
 have hl:=(List.getElem?_eq_some_iff.1 hj).1;rw[Ba]at hl;rw[DH _ hl]at hj;rw[Nat.zero_add,h.cell j hl,hj]
theorem Xd:∀(v:Fin 256) (i:Fin 8),(bits BinOp.and IntKind.u8 ((v.val:Int) / 2 ^ i.val) 1 == 1)=v.val.testBit i.val:=by decide+kernel
theorem Yj (s:ByteArray) (k:Nat) (h:k / 8<s.size):(bits BinOp.and IntKind.u8 (((s[k / 8]).toNat:Int) / 2 ^ (k % 8)) 1 == 1)=Cm s k:=by
 have:=Xd ⟨(s[k / 8]).toNat,(s[k / 8]).toNat_lt⟩ ⟨k % 8,by omega⟩;rw[this];have hl:k / 8<s.data.toList.length:=by simpa using h
 simp only[Cm,List.getD_eq_getElem?_getD,List.getElem?_eq_getElem hl,Option.getD_some];rfl
theorem F5 (f:Nat->Bool):(Tryz.prog.info? 110).map (·.size)=some (Bb f).length:=by rw[Ba];exact TG
theorem DQ (f:Nat->Bool):(Tryz.prog.info? 110).map (·.size)=some (Bb f).toArray.size:=by rw[List.size_toArray,Ba];exact TG
theorem Ec {P:Program} {fn:Func} {p:Tmp} {ty:TypeId} {v:Value} (h:fn.results= #[.cell p ty]) (tmps:Array Value) (w:World) (a:Addr) (hp:tmps.getD p undef= .pointer (some a)) (hl:(loadVar ty a).run P w= .ok v w):
  (results fn tmps).run P w= .ok v w:=by
 have hp':tmps[p]?.getD undef= .pointer (some a):=by simpa [Array.getD_eq_getD_getElem?]using hp
 simp[results,h,hp',asAddr,hl]
set_option maxHeartbeats 400000
theorem GM (s:ByteArray) (hs:250<=s.size) (hm:s.size<=1024) (w:World):
  Calls Tryz.prog 116 #[.string s] w fun e w'=>e= .returned (.agg (Bb (Cm s)).toArray)/\Below w.heap.size w w':=by
 have hz:=Tryz.zeroValue110;go_enter Tryz.func116,Tryz.ntmps116;go_wp2_with fail;clear hz;go_loopw [4] (fun i wr=>∃k:Nat,k<=2000/\i= .int .i64 k/\Hid (KK w.heap.size (fun j=>decide (j<k) && Cm s j) wr)/\Hid (Below w.heap.size w wr)) (fun i _=>2000-(intOf i).toNat)
 case atStart=>
  have hn:(w.alloc (.cells Tryz.zeroCells110 110)).heap[w.heap.size]? =some (.cells Tryz.zeroCells110 110):=heap_alloc_new w _;refine⟨0,by omega,rfl,⟨fun j hj=> ?_,fun j=>by simp only[World.frozen?,hn];simp⟩,(Below.refl _ _).alloc (Nat.le_refl _) _⟩;rw[cell_of_row _ _ _ _ _ _ hn,Qi];have:=DH (fun _=>false) hj;simpa using this
 case round=>
  obtain⟨k,hk,rfl,HC,HB⟩:=hrel
  by_cases hlt:k<2000
  ·have h1:(k:Int)<2000:=by omega
   have h2:k / 8<s.size:=by omega
   have q:=HC.out.cell k hlt;have f:=HC.out.free k;have hbit:=Yj s k h2;go_wp2;go_roundw
   case rel=>
    refine⟨k+1,by omega,by go_num,⟨fun j hj=> ?_,fun j=>by rw[World.frozen?_setCell];exact HC.out.free j⟩,HB.out.setCell (p:=⟨w.heap.size,k,none⟩) (Nat.le_refl _) _⟩
    by_cases e:j=k
    ·subst e
     rw[World.cell?_setCell_same _ _ _ q];simp
    ·rw[World.cell?_setCell_other _ _ _ _ (fun e'=>e (by cases e';rfl)),HC.out.cell j hj]
     have:decide (j<k)=decide (j<k+1):=by simp;omega
     rw[this]
   case measure=>simp[intOf];omega
  ·have hk2:k=2000:=by omega
   have h1:(k:Int)=2000:=by omega
   have hr:wr.rangeAt w.heap.size 0 (Bb (Cm s)):=by
    rw[Gf (g:=fun j=>decide (j<k) && Cm s j) (fun j hj=>by simp;omega)];exact HC.out.range
   have ht:wr.there w.heap.size 0 (Bb (Cm s)).toArray.size:=fun j hj=>by
    simp[Ba]at hj;rw[Nat.zero_add];exact⟨by rw[HC.out.cell j hj];rfl,HC.out.free j⟩
   have hl2:=run_loadVar_mid (P:=Tryz.prog) (wr.setCells w.heap.size 0 (Bb (Cm s)).toArray.toList) w.heap.size 0 110 _ _ (World.rangeAt_setCells_same _ _ _ _ (by simpa using ht)) Tryz.underlying110 rfl (F5 _);have hb:Hid (Below w.heap.size w (wr.setCells w.heap.size 0 (Bb (Cm s)).toArray.toList)):=Below.setCells' (Nat.le_refl _) _ _ _ HB.out;have hs1:=F5 (Cm s);have hs2:=DQ (Cm s);have ho:=all_oneCell_toArray (DG (Cm s));obtain⟨fs,hfs⟩:∃fs,Bb (Cm s)=fs:=⟨_,rfl⟩;rw[hfs]at hr ht hl2 hb hs1 hs2 ho;have HF:Hid (Bb (Cm s)=fs):=hfs;clear hfs;have HR:Hid _:=hr;have HT:Hid _:=ht;clear hr ht
   go_wp2_with (first|(refine wpList_load_mid rfl 110 _ rfl _ 0 rfl fs _ HR.out Tryz.underlying110 rfl hs1 ?_)|(refine wpList_store_mid rfl 110 _ _ rfl _ 0 fs.toArray rfl rfl HT.out hs2 ho ?_))
   exact bodyPost_ret (v:= .agg fs.toArray) (Ec Tryz.results116 _ _ _ rfl hl2) rfl ⟨by rw[HF.out],hb.out⟩
def FW (k:Nat) (up:Bool):Nat:=if up then 2000+k else k
theorem Lr (k:Nat) (hk:k<2000) (up:Bool) (w:World):
  Calls Tryz.prog 80 #[.int .i64 k,.bool up] w fun e w'=>e= .returned (.int .i64 (FW k up))/\w'=w:=by
 go_enter Tryz.func80,Tryz.ntmps80
 cases up
 ·go_wp2
  go_ret;exact⟨rfl,rfl⟩
 ·go_wp2
  go_ret;exact⟨Hx (by simp[FW]),rfl⟩
theorem Do (n b:Int) (w:World):
  Calls Tryz.prog 82 #[.int .i64 n,.int .i64 b] w fun e w'=>e= .returned (.bool (decide (0<=n) && decide (n<b)))/\w'=w:=by
 go_enter Tryz.func82,Tryz.ntmps82
 by_cases h0:0<=n
 ·go_wp2
  go_ret;exact⟨Fj (by simp[h0]),rfl⟩
 ·go_wp2
  go_ret;exact⟨Fj (by rw[decide_eq_false (show ¬0<=n by omega)];rfl),rfl⟩
theorem JD (i:Nat) (hi:i<8) (w:World):
  Calls Tryz.prog 118 #[.int .i64 i] w fun e w'=>e= .returned (.int .i64 (500+4 * (i:Int)))/\w'=w:=by
 go_enter Tryz.func118,Tryz.ntmps118;go_wp2;go_ret;exact⟨Hx (by go_num),rfl⟩
def FJ (s:ByteArray) (k:Nat):Int:=((s.data.toList.getD k 0).toNat * 256+(s.data.toList.getD (k+1) 0).toNat:Nat)
theorem NP (s:ByteArray) (k:Nat):0<=FJ s k/\FJ s k<65536:=by
 unfold FJ;have h1:=(s.data.toList.getD k 0).toNat_lt;have h2:=(s.data.toList.getD (k+1) 0).toNat_lt;omega
theorem By (n:Int) (h₀:0<=n) (h₁:n<2 ^ 63):IntKind.i64.wrap n=n:=by rw[IntKind.wrap_i64];omega
theorem Fy (n:Int) (h0:0<=n) (h1:n<9223372036854775808):wrap64 n=n:=by simp only[wrap64];omega
theorem XK (a b:UInt8):bits BinOp.or IntKind.i64 (wrap64 (wrap64 (a.toNat:Int) * 256)) (wrap64 (b.toNat:Int))=((a.toNat * 256+b.toNat:Nat):Int):=by
 have h1:=a.toNat_lt;have h2:=b.toNat_lt;rw[Fy (a.toNat:Int) (by omega) (by omega),Fy (b.toNat:Int) (by omega) (by omega),Fy _ (by omega) (by omega),bits_join IntKind.i64 63 (by decide) By 8 _ _ (by omega) (by omega) (by omega) (by omega) (by omega) (by omega)];omega
theorem FU (s:ByteArray) (h2:2<=s.size) (w:World):
  Calls Tryz.prog 117 #[.string s] w fun e w'=>e= .returned (.int .i64 (FJ s 0))/\∃n,w'=w.drewN n:=by
 have h0:0<s.size:=by omega
 have h1:1<s.size:=by omega
 have h1':(1:Int)<(s.size:Int):=by omega
 have h0':(0:Int)<(s.size:Int):=by omega
 go_enter Tryz.func117,Tryz.ntmps117;go_wp2;go_quiet (fail);go_wp2;go_ret
 have e0:s.data.toList.getD 0 0=s[0]:=by
  have hl:0<s.data.toList.length:=by simpa using h0
  rw[List.getD_eq_getElem?_getD,List.getElem?_eq_getElem hl];rfl
 have e1:s.data.toList.getD 1 0=s[1]:=by
  have hl:1<s.data.toList.length:=by simpa using h1
  rw[List.getD_eq_getElem?_getD,List.getElem?_eq_getElem hl];rfl
 refine⟨Hx ?_,_,rfl⟩;unfold FJ;rw[e0,e1];exact XK _ _
theorem TF:(Tryz.prog.info? 113).map (·.size)=some 16:=by kernel_rfl
def Hp:Array Value:= #[.int .i64 0,.int .i64 0,.int .i64 0,.int .i64 0,.int .i64 0,.int .i64 0,.int .i64 0,.int .i64 0,.int .i64 0,.int .i64 0,.int .i64 0,.int .i64 0,.int .i64 0,.int .i64 0,.int .i64 0,.int .i64 0]
theorem OG:Hp=(Cv (fun _=>0) (fun _=>0)).toArray:=by kernel_rfl
theorem OQ (a b:Nat->Int):(Tryz.prog.info? 113).map (·.size)=some (Cv a b).length:=by rw[C4];exact TF
theorem Nk (a b:Nat->Int):(Tryz.prog.info? 113).map (·.size)=some (Cv a b).toArray.size:=by rw[List.size_toArray,C4];exact TF
def B8 (s:ByteArray) (k:Nat):Bool:=decide (0<k) && Cm s k
def AR (s:ByteArray) (k:Nat):Bool:=Cm s (k+2000)
def Hs (s:ByteArray) (i:Nat):Int:=FJ s (500+4 * i)
def GX (s:ByteArray) (i:Nat):Int:=FJ s (502+4 * i)
theorem UY (s:ByteArray) (a b:Nat):(s.extract a b).data.toList=(s.data.toList.drop a).take (b-a):=by
 rw[ByteArray.data_extract,Array.toList_extract,List.extract_eq_take_drop]
theorem Ih (s:ByteArray) (a b:Nat) (h:b<=s.size):(s.extract a b).size=b-a:=by
 rw[ByteArray.size_extract];omega
theorem Ii (s:ByteArray) (a b k:Nat) (hk:a+k<b):(s.extract a b).data.toList.getD k 0=s.data.toList.getD (a+k) 0:=by
 rw[UY,List.getD_eq_getElem?_getD,List.getElem?_take_of_lt (by omega),List.getElem?_drop,<-List.getD_eq_getElem?_getD]
theorem SW (s:ByteArray) {k:Nat} (hk:k<2000):Cm (s.extract 0 250) k=Cm s k:=by
 unfold Cm;rw[Ii _ _ _ _ (by omega),Nat.zero_add]
theorem Qa (s:ByteArray) {k:Nat} (hk:k<2000):Cm (s.extract 250 1024) k=AR s k:=by
 unfold AR Cm;rw[Ii _ _ _ _ (by omega),show 250+k / 8=(k+2000) / 8 by omega,show k % 8=(k+2000) % 8 by omega]
theorem Ly (s:ByteArray) (a b:Nat) (h:a+1<b):FJ (s.extract a b) 0=FJ s a:=by
 unfold FJ;rw[Ii _ _ _ _ (by omega),Ii _ _ _ _ (by omega),Nat.add_zero]
structure Fb (B:Nat) (a b:Nat->Int) (w:World):Prop where
 cell:∀j,j<16->w.cell? ⟨B,j,none⟩=some (.int .i64 (if j % 2=0 then a (j / 2)else b (j / 2)))
 free:∀j,w.frozen? ⟨B,j,none⟩=false
theorem Fb.range {B:Nat} {a b:Nat->Int} {w:World} (h:Fb B a b w):w.rangeAt B 0 (Cv a b):=fun j v hj=>by
 have hl:=(List.getElem?_eq_some_iff.1 hj).1;rw[C4]at hl;rw[F6 _ _ hl]at hj;rw[Nat.zero_add,h.cell j hl,hj]
theorem KK.block {B:Nat} {f:Nat->Bool} {w w':World} (h:KK B f w) (hb:w'.heap[B]? =w.heap[B]?):KK B f w':=
 ⟨fun k hk=>(World.cell?_of_block hb).trans (h.cell k hk),fun k=>(World.frozen?_of_block (a:=⟨B,k,none⟩) hb).trans (h.free k)⟩
theorem Fb.block {B:Nat} {a b:Nat->Int} {w w':World} (h:Fb B a b w) (hb:w'.heap[B]? =w.heap[B]?):Fb B a b w':=
 ⟨fun k hk=>(World.cell?_of_block hb).trans (h.cell k hk),fun k=>(World.frozen?_of_block (a:=⟨B,k,none⟩) hb).trans (h.free k)⟩
theorem KK.there {B:Nat} {f:Nat->Bool} {w:World} (h:KK B f w) {n:Nat} (hn:n=2000):w.there B 0 n:=fun j hj=>by
 rw[Nat.zero_add];exact⟨by rw[h.cell j (by omega)];rfl,h.free j⟩
theorem Fb.there {B:Nat} {a b:Nat->Int} {w:World} (h:Fb B a b w) {n:Nat} (hn:n=16):w.there B 0 n:=fun j hj=>by
 rw[Nat.zero_add];exact⟨by rw[h.cell j (by omega)];rfl,h.free j⟩
structure H3 (w wr:World) (f g:Nat->Bool) (a b:Nat->Int):Prop where
 used:KK w.heap.size f wr
 upper:KK (w.heap.size+1) g wr
 roots:Fb (w.heap.size+1+1) a b wr
 below:Below w.heap.size w wr
 size:w.heap.size+3<=wr.heap.size
section
variable {w wr wx:World} {f g:Nat->Bool} {a b:Nat->Int}
theorem H3.later (h:H3 w wr f g a b) (hb:Below wr.heap.size wr wx):H3 w wx f g a b:=by
 have:=h.size;exact⟨h.used.block (hb.block _ (by omega)),h.upper.block (hb.block _ (by omega)),h.roots.block (hb.block _ (by omega)),h.below.trans (hb.mono (by omega)),Nat.le_trans h.size hb.size⟩
theorem H3.drewN (h:H3 w wr f g a b) (n:Nat):H3 w (wr.drewN n) f g a b:=
 ⟨h.used.block rfl,h.upper.block rfl,h.roots.block rfl,h.below.trans ⟨rfl,rfl,rfl,Nat.le_refl _,fun _ _=>rfl⟩,h.size⟩
theorem H3.start (w:World):H3 w (((w.alloc (.cells Tryz.zeroCells110 110)).alloc (.cells Tryz.zeroCells110 110)).alloc (.cells Hp 113)) (fun _=>false) (fun _=>false) (fun _=>0) (fun _=>0):=by
 have hn1:(w.alloc (.cells Tryz.zeroCells110 110)).heap[w.heap.size]? =some (.cells Tryz.zeroCells110 110):=heap_alloc_new w _;have hs1:(w.alloc (.cells Tryz.zeroCells110 110)).heap.size=w.heap.size+1:=World.size_alloc _ _;have hn2:((w.alloc (.cells Tryz.zeroCells110 110)).alloc (.cells Tryz.zeroCells110 110)).heap[w.heap.size+1]? =some (.cells Tryz.zeroCells110 110):=by rw[<-hs1];exact heap_alloc_new _ _
 have hs2:((w.alloc (.cells Tryz.zeroCells110 110)).alloc (.cells Tryz.zeroCells110 110)).heap.size=w.heap.size+1+1:=by rw[World.size_alloc,hs1]
 have hn3:(((w.alloc (.cells Tryz.zeroCells110 110)).alloc (.cells Tryz.zeroCells110 110)).alloc (.cells Hp 113)).heap[w.heap.size+1+1]? =some (.cells Hp 113):=by rw[<-hs2];exact heap_alloc_new _ _
 have b1:Below w.heap.size w (w.alloc (.cells Tryz.zeroCells110 110)):=(Below.refl _ _).alloc (Nat.le_refl _) _;have b2:Below (w.heap.size+1) (w.alloc (.cells Tryz.zeroCells110 110)) ((w.alloc (.cells Tryz.zeroCells110 110)).alloc (.cells Tryz.zeroCells110 110)):=by rw[<-hs1];exact(Below.refl _ _).alloc (Nat.le_refl _) _
 have b3:Below (w.heap.size+1+1) ((w.alloc (.cells Tryz.zeroCells110 110)).alloc (.cells Tryz.zeroCells110 110)) (((w.alloc (.cells Tryz.zeroCells110 110)).alloc (.cells Tryz.zeroCells110 110)).alloc (.cells Hp 113)):=by rw[<-hs2];exact(Below.refl _ _).alloc (Nat.le_refl _) _
 have bits0:∀(B:Nat) (wz:World),wz.heap[B]? =some (.cells Tryz.zeroCells110 110)->KK B (fun _=>false) wz:=fun B wz hB=>by
  refine⟨fun j hj=> ?_,fun j=>by simp only[World.frozen?,hB];simp⟩;rw[cell_of_row _ _ _ _ _ _ hB,Qi];have:=DH (fun _=>false) hj;simpa using this
 have c1:=bits0 _ _ hn1;have c2:=bits0 _ _ hn2;refine⟨(c1.block (b2.block _ (by omega))).block (b3.block _ (by omega)),c2.block (b3.block _ (by omega)),?_,b1.trans ((b2.mono (by omega)).trans (b3.mono (by omega))),by rw[World.size_alloc,hs2];omega⟩;refine⟨fun j hj=> ?_,fun j=>by simp only[World.frozen?,hn3];simp⟩;rw[cell_of_row _ _ _ _ _ _ hn3,OG];have:=F6 (fun _=>0) (fun _=>0) hj;simpa using this
theorem H3.store0 (h:H3 w wr f g a b) {f':Nat->Bool} {vs:List Value} (hv:vs=Bb f'):H3 w (wr.setCells w.heap.size 0 vs) f' g a b:=by
 subst hv;have hs:=h.size;refine⟨⟨fun j hj=> ?_,fun j=>by rw[World.frozen?_setCells];exact h.used.free j⟩,⟨fun j hj=> ?_,fun j=>by rw[World.frozen?_setCells];exact h.upper.free j⟩,⟨fun j hj=> ?_,fun j=>by rw[World.frozen?_setCells];exact h.roots.free j⟩,Below.setCells' (Nat.le_refl _) _ _ _ h.below,Nat.le_trans hs (Below.setCells' (B:=0) (Nat.zero_le _) _ _ _ (Below.refl 0 wr)).size⟩
 ·have hj':j<(Bb f').length:=by rw[Ba];exact hj
  have:=World.cell?_setCells_in w.heap.size (Bb f') 0 wr (fun i hi=>by rw[Ba]at hi;rw[Nat.zero_add,h.used.cell i hi];rfl) j hj';rw[Nat.zero_add]at this;rw[this,<-List.getElem?_eq_getElem hj',DH _ hj]
 ·rw[World.cell?_setCells_out _ _ _ _ _ (fun e=>by simp only at e;omega),h.upper.cell j hj]
 ·rw[World.cell?_setCells_out _ _ _ _ _ (fun e=>by simp only at e;omega),h.roots.cell j hj]
theorem H3.store1 (h:H3 w wr f g a b) {g':Nat->Bool} {vs:List Value} (hv:vs=Bb g'):H3 w (wr.setCells (w.heap.size+1) 0 vs) f g' a b:=by
 subst hv;have hs:=h.size;refine⟨⟨fun j hj=> ?_,fun j=>by rw[World.frozen?_setCells];exact h.used.free j⟩,⟨fun j hj=> ?_,fun j=>by rw[World.frozen?_setCells];exact h.upper.free j⟩,⟨fun j hj=> ?_,fun j=>by rw[World.frozen?_setCells];exact h.roots.free j⟩,Below.setCells' (by omega) _ _ _ h.below,Nat.le_trans hs (Below.setCells' (B:=0) (Nat.zero_le _) _ _ _ (Below.refl 0 wr)).size⟩
 ·rw[World.cell?_setCells_out _ _ _ _ _ (fun e=>by simp only at e;omega),h.used.cell j hj]
 ·have hj':j<(Bb g').length:=by rw[Ba];exact hj
  have:=World.cell?_setCells_in (w.heap.size+1) (Bb g') 0 wr (fun i hi=>by rw[Ba]at hi;rw[Nat.zero_add,h.upper.cell i hi];rfl) j hj';rw[Nat.zero_add]at this;rw[this,<-List.getElem?_eq_getElem hj',DH _ hj]
 ·rw[World.cell?_setCells_out _ _ _ _ _ (fun e=>by simp only at e;omega),h.roots.cell j hj]
theorem H3.store2 (h:H3 w wr f g a b) {a' b':Nat->Int} {vs:List Value} (hv:vs=Cv a' b'):H3 w (wr.setCells (w.heap.size+1+1) 0 vs) f g a' b':=by
 subst hv;have hs:=h.size;refine⟨⟨fun j hj=> ?_,fun j=>by rw[World.frozen?_setCells];exact h.used.free j⟩,⟨fun j hj=> ?_,fun j=>by rw[World.frozen?_setCells];exact h.upper.free j⟩,⟨fun j hj=> ?_,fun j=>by rw[World.frozen?_setCells];exact h.roots.free j⟩,Below.setCells' (by omega) _ _ _ h.below,Nat.le_trans hs (Below.setCells' (B:=0) (Nat.zero_le _) _ _ _ (Below.refl 0 wr)).size⟩
 ·rw[World.cell?_setCells_out _ _ _ _ _ (fun e=>by simp only at e;omega),h.used.cell j hj]
 ·rw[World.cell?_setCells_out _ _ _ _ _ (fun e=>by simp only at e;omega),h.upper.cell j hj]
 ·have hj':j<(Cv a' b').length:=by rw[C4];exact hj
  have:=World.cell?_setCells_in (w.heap.size+1+1) (Cv a' b') 0 wr (fun i hi=>by rw[C4]at hi;rw[Nat.zero_add,h.roots.cell i hi];rfl) j hj';rw[Nat.zero_add]at this;rw[this,<-List.getElem?_eq_getElem hj',F6 _ _ hj]
theorem H3.zero (h:H3 w wr f g a b):H3 w (wr.setCell ⟨w.heap.size,0,none⟩ (.bool false)) (fun k=>decide (0<k) && f k) g a b:=by
 have hs:=h.size;refine⟨⟨fun j hj=> ?_,fun j=>by rw[World.frozen?_setCell];exact h.used.free j⟩,⟨fun j hj=> ?_,fun j=>by rw[World.frozen?_setCell];exact h.upper.free j⟩,⟨fun j hj=> ?_,fun j=>by rw[World.frozen?_setCell];exact h.roots.free j⟩,h.below.setCell (p:=⟨w.heap.size,0,none⟩) (Nat.le_refl _) _,by rw[World.size_setCell];exact hs⟩
 ·by_cases e:j=0
  ·subst e
   rw[World.cell?_setCell_same _ _ _ (h.used.cell 0 hj)];rfl
  ·rw[World.cell?_setCell_other _ _ _ _ (fun e'=>e (by cases e';rfl)),h.used.cell j hj,decide_eq_true (show 0<j by omega)];rfl
 ·rw[World.cell?_setCell_other _ _ _ _ (fun e'=>by injection e' with e1 e2;omega),h.upper.cell j hj]
 ·rw[World.cell?_setCell_other _ _ _ _ (fun e'=>by injection e' with e1 e2;omega),h.roots.cell j hj]
theorem H3.root (h:H3 w wr f g a b) {k:Nat} {x y:Int} {a' b':Nat->Int} (h1:a' k=x) (h2:b' k=y) (h3:∀j,j≠k->a' j=a j) (h4:∀j,j≠k->b' j=b j):
  H3 w ((wr.setCell ⟨w.heap.size+1+1,k * 2,none⟩ (.int .i64 x)).setCell ⟨w.heap.size+1+1,k * 2+1,none⟩ (.int .i64 y)) f g a' b':=by
 have hs:=h.size;refine⟨⟨fun j hj=> ?_,fun j=>by rw[World.frozen?_setCell,World.frozen?_setCell];exact h.used.free j⟩,⟨fun j hj=> ?_,fun j=>by rw[World.frozen?_setCell,World.frozen?_setCell];exact h.upper.free j⟩,⟨fun j hj=> ?_,fun j=>by rw[World.frozen?_setCell,World.frozen?_setCell];exact h.roots.free j⟩,(h.below.setCell (p:=⟨w.heap.size+1+1,k * 2,none⟩) (by show w.heap.size<=w.heap.size+1+1;omega) _).setCell (p:=⟨w.heap.size+1+1,k * 2+1,none⟩) (by show w.heap.size<=w.heap.size+1+1;omega) _,by rw[World.size_setCell,World.size_setCell];exact hs⟩
 ·rw[World.cell?_setCell_other _ _ _ _ (fun e'=>by injection e' with e1 e2;omega),World.cell?_setCell_other _ _ _ _ (fun e'=>by injection e' with e1 e2;omega),h.used.cell j hj]
 ·rw[World.cell?_setCell_other _ _ _ _ (fun e'=>by injection e' with e1 e2;omega),World.cell?_setCell_other _ _ _ _ (fun e'=>by injection e' with e1 e2;omega),h.upper.cell j hj]
 ·by_cases e2:j=k * 2+1
  ·subst e2
   rw[World.cell?_setCell_same _ _ _ (by rw[World.cell?_setCell_other _ _ _ _ (fun e'=>by injection e' with e1 e2;omega)];exact h.roots.cell _ hj),if_neg (by omega),show(k * 2+1) / 2=k by omega,h2]
  ·rw[World.cell?_setCell_other _ _ _ _ (fun e'=>e2 (by injection e' with e1 e3;omega))]
   by_cases e1:j=k * 2
   ·subst e1
    rw[World.cell?_setCell_same _ _ _ (h.roots.cell _ hj),if_pos (by omega),show(k * 2) / 2=k by omega,h1]
   ·rw[World.cell?_setCell_other _ _ _ _ (fun e'=>e1 (by injection e' with e3 e4;omega)),h.roots.cell j hj]
    by_cases e:j % 2=0
    ·rw[if_pos e,if_pos e,h3 _ (by omega)]
    ·rw[if_neg e,if_neg e,h4 _ (by omega)]
theorem H3.drew (h:H3 w wr f g a b):H3 w wr.drew f g a b:=
 ⟨h.used.block rfl,h.upper.block rfl,h.roots.block rfl,h.below.trans ⟨rfl,rfl,rfl,Nat.le_refl _,fun _ _=>rfl⟩,h.size⟩
end
theorem JF {P:Program} {fn:Func} {p0 p1 p2:Tmp} {t0 t1 t2:TypeId} {v0 v1 v2:Value} (h:fn.results= #[.cell p0 t0,.cell p1 t1,.cell p2 t2]) (tmps:Array Value) (w:World) (a0 a1 a2:Addr)
  (hp0:tmps.getD p0 undef= .pointer (some a0)) (hp1:tmps.getD p1 undef= .pointer (some a1)) (hp2:tmps.getD p2 undef= .pointer (some a2))
  (hl0:(loadVar t0 a0).run P w= .ok v0 w) (hl1:(loadVar t1 a1).run P w= .ok v1 w) (hl2:(loadVar t2 a2).run P w= .ok v2 w):
  (results fn tmps).run P w= .ok (.tuple #[v0,v1,v2]) w:=by
 have e0:tmps[p0]?.getD undef= .pointer (some a0):=by simpa [Array.getD_eq_getD_getElem?]using hp0
 have e1:tmps[p1]?.getD undef= .pointer (some a1):=by simpa [Array.getD_eq_getD_getElem?]using hp1
 have e2:tmps[p2]?.getD undef= .pointer (some a2):=by simpa [Array.getD_eq_getD_getElem?]using hp2
 simp[results,h,e0,e1,e2,asAddr,hl0,hl1,hl2]
set_option maxHeartbeats 1600000
theorem Mn (s:ByteArray) (hs:s.size=1024) (w:World):
  Calls Tryz.prog 81 #[.string s] w fun e w'=>e= .returned (.tuple #[.agg (Bb (B8 s)).toArray,.agg (Bb (AR s)).toArray,.agg (Cv (Hs s) (GX s)).toArray])/\Below w.heap.size w w':=by
 have hz:=Tryz.zeroValue110;have hz3:=Tryz.zeroValue113;have h250:250<=s.size:=by omega
 go_enter Tryz.func81,Tryz.ntmps81;go_wp2_with fail;clear hz hz3;have h0:=H3.start w;have e1:(s.extract 0 250).size=250:=by rw[Ih _ _ _ (by omega)]
 have e2:(s.extract 250 1024).size=774:=by rw[Ih _ _ _ (by omega)]
 refine(GM (s.extract 0 250) (by omega) (by omega) _).mono ?_;rintro _ w1 ⟨rfl,hb1⟩;have h1:H3 w w1 _ _ _ _:=h0.later hb1;clear h0 hb1;obtain⟨fs,hfs⟩:∃fs,Bb (Cm (s.extract 0 250))=fs:=⟨_,rfl⟩;rw[hfs];have hs2:(Tryz.prog.info? 110).map (·.size)=some fs.toArray.size:=by rw[<-hfs];exact DQ _
 have ho:=all_oneCell_toArray (show ∀v∈fs,v.oneCell'=true by rw[<-hfs];exact DG _);have HT:Hid (w1.there w.heap.size 0 fs.toArray.size):=h1.used.there (by rw[<-hfs,List.size_toArray,Ba]);have h2:H3 w (w1.setCells w.heap.size 0 fs) (Cm s) _ _ _:=h1.store0 (by rw[<-hfs];exact Gf fun k hk=>SW s hk);have q0:=h2.used.cell 0 (by omega);have f0:=h2.used.free 0;have H2:Hid _:=h2;clear h2 h1 hfs
 go_wp2_with (refine wpList_store_mid rfl 110 _ _ rfl _ 0 fs.toArray rfl rfl HT.out hs2 ho ?_)
 clear q0 f0 HT ho hs2;have h3:=H2.out.zero;clear H2;refine(GM (s.extract 250 1024) (by omega) (by omega) _).mono ?_;rintro _ w2 ⟨rfl,hb2⟩;have h4:H3 w w2 _ _ _ _:=h3.later hb2;clear h3 hb2;obtain⟨gs,hgs⟩:∃gs,Bb (Cm (s.extract 250 1024))=gs:=⟨_,rfl⟩;rw[hgs];have hs2:(Tryz.prog.info? 110).map (·.size)=some gs.toArray.size:=by rw[<-hgs];exact DQ _
 have ho:=all_oneCell_toArray (show ∀v∈gs,v.oneCell'=true by rw[<-hgs];exact DG _);have HT:Hid (w2.there (w.heap.size+1) 0 gs.toArray.size):=h4.upper.there (by rw[<-hgs,List.size_toArray,Ba]);have H5:Hid (H3 w (w2.setCells (w.heap.size+1) 0 gs) (B8 s) (AR s) (fun _=>0) (fun _=>0)):=h4.store1 (by rw[<-hgs];exact Gf fun k hk=>Qa s hk);clear h4 hgs
 go_wp2_with (refine wpList_store_mid rfl 110 _ _ rfl _ 0 gs.toArray rfl rfl HT.out hs2 ho ?_)
 clear HT hs2 ho e1 e2;go_loopw [13] (fun i wr=>∃k:Nat,k<=8/\i= .int .i64 k/\Hid (H3 w wr (B8 s) (AR s) (fun j=>if j<k then Hs s j else 0) (fun j=>if j<k then GX s j else 0))) (fun i _=>8-(intOf i).toNat)
 case atStart=>
  exact⟨0,by omega,rfl,by simpa using H5⟩
 case round=>
  obtain⟨k,hk,rfl,HC⟩:=hrel
  by_cases hlt:k<8
  ·have h1:(k:Int)<8:=by omega
   have g1:(500+4 * (k:Int))<=(s.size:Int):=by omega
   have g2:(500+4 * (k:Int)+2)<=(s.size:Int):=by omega
   go_wp2_with fail;refine(JD k hlt _).mono ?_;rintro _ wa ⟨rfl,hw⟩;subst wa;go_wp2_with fail;refine(FU (s.extract (500+4 * k) 1024) (by rw[Ih _ _ _ (by omega)];omega) _).mono ?_;rintro _ wa ⟨rfl,n1,hw⟩;subst wa;rw[Ly _ _ _ (by omega)];go_wp2_with fail;refine(JD k hlt _).mono ?_;rintro _ wa ⟨rfl,hw⟩;subst wa;go_wp2_with fail;refine(FU (s.extract (500+4 * k+2) 1024) (by rw[Ih _ _ _ (by omega)];omega) _).mono ?_;rintro _ wa ⟨rfl,n2,hw⟩;rw[Ly _ _ _ (by omega)]
   have HX:Hid (H3 w wa (B8 s) (AR s) (fun j=>if j<k then Hs s j else 0) (fun j=>if j<k then GX s j else 0)):=by
    rw[hw];exact(HC.out.drewN n1).drewN n2
   clear HC hw;have f1:=HX.out.roots.free (k * 2);have f2:=HX.out.roots.free (k * 2+1);have q1:=HX.out.roots.cell (k * 2) (by omega);have q2:=HX.out.roots.cell (k * 2+1) (by omega);go_wp2;go_roundw
   case rel=>
    refine⟨k+1,by omega,by go_num,HX.out.root ?_ ?_ ?_ ?_⟩
    ·show(if k<k+1 then Hs s k else 0)=_
     rw[if_pos (by omega)];rfl
    ·show(if k<k+1 then GX s k else 0)=_
     rw[if_pos (by omega),GX,show 502+4 * k=500+4 * k+2 by omega]
    ·intro j hj
     show(if j<k+1 then Hs s j else 0)=if j<k then Hs s j else 0
     by_cases e:j<k
     ·rw[if_pos e,if_pos (by omega)]
     ·rw[if_neg e,if_neg (by omega)]
    ·intro j hj
     show(if j<k+1 then GX s j else 0)=if j<k then GX s j else 0
     by_cases e:j<k
     ·rw[if_pos e,if_pos (by omega)]
     ·rw[if_neg e,if_neg (by omega)]
   case measure=>simp[intOf];omega
  ·have h1:(k:Int)=8:=by omega
   go_wp2_with fail;clear H5;have hk8:k=8:=by omega
   have HX:Hid (H3 w wr (B8 s) (AR s) (Hs s) (GX s)):=by
    have h9:=HC.out;refine⟨h9.used,h9.upper,⟨fun j hj=> ?_,h9.roots.free⟩,h9.below,h9.size⟩;rw[h9.roots.cell j hj,if_pos (show j / 2<k by omega),if_pos (show j / 2<k by omega)]
   clear HC;obtain⟨A,hA⟩:∃A,Hs s=A:=⟨_,rfl⟩;obtain⟨B,hB⟩:∃B,GX s=B:=⟨_,rfl⟩;rw[hA,hB]at HX;obtain⟨F,hF⟩:∃F,Bb (B8 s)=F:=⟨_,rfl⟩;obtain⟨G,hG⟩:∃G,Bb (AR s)=G:=⟨_,rfl⟩;obtain⟨R,hR⟩:∃R,Cv A B=R:=⟨_,rfl⟩;have hsF:(Tryz.prog.info? 110).map (·.size)=some F.length:=by rw[<-hF];exact F5 _
   have hsG:(Tryz.prog.info? 110).map (·.size)=some G.length:=by rw[<-hG];exact F5 _
   have hsR:(Tryz.prog.info? 113).map (·.size)=some R.length:=by rw[<-hR];exact OQ _ _
   have hoF:=all_oneCell_toArray (show ∀v∈F,v.oneCell'=true by rw[<-hF];exact DG _);have hoG:=all_oneCell_toArray (show ∀v∈G,v.oneCell'=true by rw[<-hG];exact DG _);have hoR:=all_oneCell_toArray (show ∀v∈R,v.oneCell'=true by rw[<-hR];exact JC _ _);have lF:F.toArray.size=2000:=by rw[<-hF,List.size_toArray,Ba]
   have lG:G.toArray.size=2000:=by rw[<-hG,List.size_toArray,Ba]
   have lR:R.toArray.size=16:=by rw[<-hR,List.size_toArray,C4]
   have rF:∀wx,H3 w wx (B8 s) (AR s) A B->wx.rangeAt w.heap.size 0 F:=fun wx h=>by rw[<-hF];exact h.used.range
   have rG:∀wx,H3 w wx (B8 s) (AR s) A B->wx.rangeAt (w.heap.size+1) 0 G:=fun wx h=>by rw[<-hG];exact h.upper.range
   have rR:∀wx,H3 w wx (B8 s) (AR s) A B->wx.rangeAt (w.heap.size+1+1) 0 R:=fun wx h=>by rw[<-hR];exact h.roots.range
   have sF:∀wx,H3 w wx (B8 s) (AR s) A B->H3 w (wx.setCells w.heap.size 0 F.toArray.toList) (B8 s) (AR s) A B:=fun wx h=>h.store0 hF.symm;have sG:∀wx,H3 w wx (B8 s) (AR s) A B->H3 w (wx.setCells (w.heap.size+1) 0 G.toArray.toList) (B8 s) (AR s) A B:=fun wx h=>h.store1 hG.symm;have sR:∀wx,H3 w wx (B8 s) (AR s) A B->H3 w (wx.setCells (w.heap.size+1+1) 0 R.toArray.toList) (B8 s) (AR s) A B:=fun wx h=>h.store2 hR.symm;have hend:∀wx,H3 w wx (B8 s) (AR s) A B->Hid (Below w.heap.size w wx):=fun wx h=>h.below;have HE:Hid (Bb (B8 s)=F/\Bb (AR s)=G/\Cv (Hs s) (GX s)=R):=⟨hF,hG,by rw[hA,hB,hR]⟩;clear hF hG hA hB hR h1 hk8;refine wp_region_held_drew (S:=fun wx=>H3 w wx (B8 s) (AR s) A B) (by kernel_rfl) HX.out.drew ?_;intro g0;refine wpAnyH_take (i:=0) rfl (by kernel_rfl) (by kernel_rfl) (by kernel_rfl) (fun _ _ _ h=>h) (yieldsIf_load_mid (by rfl) 110 _ rfl _ 0 rfl F _ (fun wx h=>rF wx h) Tryz.underlying110 rfl hsF) g0 ?_;simp only[Act.put,List.setIfInBounds_toArray];refine wpAnyH_take (i:=1) rfl (by kernel_rfl) (by kernel_rfl) (by kernel_rfl) (fun _ _ _ h=>h) (yieldsIf_load_mid (by rfl) 110 _ rfl _ 0 rfl G _ (fun wx h=>rG wx h) Tryz.underlying110 rfl hsG) g0 ?_;simp only[Act.put];refine wpAnyH_take (i:=2) rfl (by kernel_rfl) (by kernel_rfl) (by kernel_rfl) (fun _ _ _ h=>h) (yieldsIf_load_mid (by rfl) 113 _ rfl _ 0 rfl R _ (fun wx h=>rR wx h) Tryz.underlying113 rfl hsR) g0 ?_;simp only[Act.put];refine wpAnyH_ready (rs:=[3]) (by kernel_rfl) (by decide) (AllReadyH.cons rfl (fun K hK=> ?_) AllReadyH.nil);rw[if_pos (by rfl)];refine wp_store_mid 110 _ _ rfl _ 0 F.toArray rfl rfl (g0.used.there lF) (by rw[List.size_toArray];exact hsF) hoF ?_;have g1:=sF _ g0;refine hK.out _ _ g1 (fun _=> ?_);clear hK K;simp only[Act.put];refine wpAnyH_ready (rs:=[4]) (by kernel_rfl) (by decide) (AllReadyH.cons rfl (fun K hK=> ?_) AllReadyH.nil);rw[if_pos (by rfl)];refine wp_store_mid 110 _ _ rfl _ 0 G.toArray rfl rfl (g1.upper.there lG) (by rw[List.size_toArray];exact hsG) hoG ?_;have g2:=sG _ g1;refine hK.out _ _ g2 (fun _=> ?_);clear hK K;simp only[Act.put];refine wpAnyH_ready (rs:=[5]) (by kernel_rfl) (by decide) (AllReadyH.cons rfl (fun K hK=> ?_) AllReadyH.nil);rw[if_pos (by rfl)];refine wp_store_mid 113 _ _ rfl _ 0 R.toArray rfl rfl (g2.roots.there lR) (by rw[List.size_toArray];exact hsR) hoR ?_;have g3:=sR _ g2;refine hK.out _ _ g3 (fun _=> ?_);clear hK K;simp only[Act.put];refine wpAnyH_done (by kernel_rfl) ?_ _;generalize ((wr.drew.setCells w.heap.size 0 F.toArray.toList).setCells (w.heap.size+1) 0 G.toArray.toList).setCells (w.heap.size+1+1) 0 R.toArray.toList=wz at *;have l0:=run_loadVar_mid (P:=Tryz.prog) wz w.heap.size 0 110 F _ (rF _ g3) Tryz.underlying110 rfl hsF;have l1:=run_loadVar_mid (P:=Tryz.prog) wz (w.heap.size+1) 0 110 G _ (rG _ g3) Tryz.underlying110 rfl hsG;have l2:=run_loadVar_mid (P:=Tryz.prog) wz (w.heap.size+1+1) 0 113 R _ (rR _ g3) Tryz.underlying113 rfl hsR;have HB:=hend _ g3;clear rF rG rR sF sG sR hend g0 g1 g2 g3;go_wp2_with fail;exact bodyPost_ret (v:= .tuple #[.agg F.toArray,.agg G.toArray,.agg R.toArray]) (JF Tryz.results81 _ _ _ _ _ rfl rfl rfl l0 l1 l2) rfl ⟨by rw[HE.out.1,HE.out.2.1,HE.out.2.2],HB.out⟩
end
end Go.Proofs.YtgfldnaahojnlaaGreatDoor
