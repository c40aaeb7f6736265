/- StoreFinds: part 1. -/
import Derived.Test.YtihnldkgeelehaaGreatDoorF00
import Derived.Shelf.LaysM
import Derived.Shelf.Strconv.Clone
import Derived.Shelf.Strings.Repeat
import Derived.Shelf.Strings.Prefix
import Derived.Test.YtihnldkgeelehaaGreatDoorProg
import Derived.Lib.BufferWrite
import Derived.Laws.IdiomCopy
import Derived.Laws.IdiomStrings
import Derived.Carry
set_option maxRecDepth 100000
set_option maxHeartbeats 4000000
namespace Go.Proofs.YtihnldkgeelehaaGreatDoor
end Go.Proofs.YtihnldkgeelehaaGreatDoor
namespace Go.Proofs
open Go.Shelf
def Tryz.laysM316_ren:Go.Shelf.Ren:=⟨fun|316=>171|n=>n,fun|9=>9|3=>3|4=>4|37=>199|0=>0|127=>269|5=>5|n=>n,fun|n=>n⟩
theorem Tryz.laysM316:Go.Proofs.LaysM.n316 Tryz.prog Tryz.laysM316_ren:={
 mixed:=by kernel_rfl
 f316:=Tryz.func171.trans (congrArg some (by kernel_rfl))
 t0:=Tryz.underlying0
 a0:=Tryz.isAgg0
 z0:=Tryz.sizeOf0
 v0:=Tryz.zeroValue0
 t3:=Tryz.underlying3
 a3:=Tryz.isAgg3
 z3:=Tryz.sizeOf3
 v3:=Tryz.zeroValue3
 t4:=Tryz.underlying4
 a4:=Tryz.isAgg4
 z4:=Tryz.sizeOf4
 v4:=Tryz.zeroValue4
 t9:=Tryz.underlying9
 a9:=Tryz.isAgg9
 z9:=Tryz.sizeOf9
 v9:=Tryz.zeroValue9
 t37:=Tryz.underlying199
 a37:=Tryz.isAgg199
 z37:=Tryz.sizeOf199
 v37:=Tryz.zeroValue199
 t127:=Tryz.underlying269
 a127:=Tryz.isAgg269
 z127:=Tryz.sizeOf269
 v127:=Tryz.zeroValue269
 t5:=Tryz.underlying5
 a5:=Tryz.isAgg5
 z5:=Tryz.sizeOf5
 v5:=Tryz.zeroValue5
 i0:=by kernel_rfl
 i3:=by kernel_rfl
 i4:=by kernel_rfl
 i5:=by kernel_rfl
 i9:=by kernel_rfl
 i37:=by kernel_rfl
 i127:=by kernel_rfl}
def Tryz.lays99_ren:Go.Shelf.Ren:=⟨fun|99=>66|206=>122|n=>n,fun|9=>9|4=>4|3=>3|n=>n,fun|n=>n⟩
theorem Tryz.lays99:Go.Proofs.Lays.n99 Tryz.prog Tryz.lays99_ren:={
 mixed:=by kernel_rfl
 f99:=Tryz.func66.trans (congrArg some (by kernel_rfl))
 f206:=Tryz.func122.trans (congrArg some (by kernel_rfl))
 t3:=Tryz.underlying3
 a3:=Tryz.isAgg3
 z3:=Tryz.sizeOf3
 v3:=Tryz.zeroValue3
 t4:=Tryz.underlying4
 a4:=Tryz.isAgg4
 z4:=Tryz.sizeOf4
 v4:=Tryz.zeroValue4
 t9:=Tryz.underlying9
 a9:=Tryz.isAgg9
 z9:=Tryz.sizeOf9
 v9:=Tryz.zeroValue9}
def Tryz.lays105_ren:Go.Shelf.Ren:=⟨fun|105=>197|212=>228|99=>66|165=>229|166=>230|170=>231|169=>232|263=>249|264=>250|206=>122|240=>251|241=>252|276=>260|277=>261|n=>n,fun|9=>9|3=>3|4=>4|20=>20|0=>0|46=>184|109=>293|5=>5|72=>297|76=>44|51=>236|146=>318|53=>238|148=>321|70=>295|37=>199|75=>43|127=>269|164=>303|80=>299|n=>n,fun|n=>n⟩
theorem Tryz.lays105:Go.Proofs.Lays.n105 Tryz.prog Tryz.lays105_ren:={
 mixed:=by kernel_rfl
 f99:=Tryz.func66.trans (congrArg some (by kernel_rfl))
 f105:=Tryz.func197.trans (congrArg some (by kernel_rfl))
 f165:=Tryz.func229.trans (congrArg some (by kernel_rfl))
 f166:=Tryz.func230.trans (congrArg some (by kernel_rfl))
 f169:=Tryz.func232.trans (congrArg some (by kernel_rfl))
 f170:=Tryz.func231.trans (congrArg some (by kernel_rfl))
 f206:=Tryz.func122.trans (congrArg some (by kernel_rfl))
 f212:=Tryz.func228.trans (congrArg some (by kernel_rfl))
 f240:=Tryz.func251.trans (congrArg some (by kernel_rfl))
 f241:=Tryz.func252.trans (congrArg some (by kernel_rfl))
 f263:=Tryz.func249.trans (congrArg some (by kernel_rfl))
 f264:=Tryz.func250.trans (congrArg some (by kernel_rfl))
 f276:=Tryz.func260.trans (congrArg some (by kernel_rfl))
 f277:=Tryz.func261.trans (congrArg some (by kernel_rfl))
 t0:=Tryz.underlying0
 a0:=Tryz.isAgg0
 z0:=Tryz.sizeOf0
 v0:=Tryz.zeroValue0
 t3:=Tryz.underlying3
 a3:=Tryz.isAgg3
 z3:=Tryz.sizeOf3
 v3:=Tryz.zeroValue3
 t4:=Tryz.underlying4
 a4:=Tryz.isAgg4
 z4:=Tryz.sizeOf4
 v4:=Tryz.zeroValue4
 t5:=Tryz.underlying5
 a5:=Tryz.isAgg5
 z5:=Tryz.sizeOf5
 v5:=Tryz.zeroValue5
 t9:=Tryz.underlying9
 a9:=Tryz.isAgg9
 z9:=Tryz.sizeOf9
 v9:=Tryz.zeroValue9
 t20:=Tryz.underlying20
 a20:=Tryz.isAgg20
 z20:=Tryz.sizeOf20
 v20:=Tryz.zeroValue20
 t37:=Tryz.underlying199
 a37:=Tryz.isAgg199
 z37:=Tryz.sizeOf199
 v37:=Tryz.zeroValue199
 t46:=Tryz.underlying184
 a46:=Tryz.isAgg184
 z46:=Tryz.sizeOf184
 v46:=Tryz.zeroValue184
 t51:=Tryz.underlying236
 a51:=Tryz.isAgg236
 z51:=Tryz.sizeOf236
 v51:=Tryz.zeroValue236
 t53:=Tryz.underlying238
 a53:=Tryz.isAgg238
 z53:=Tryz.sizeOf238
 v53:=Tryz.zeroValue238
 t70:=Tryz.underlying295
 a70:=Tryz.isAgg295
 z70:=Tryz.sizeOf295
 v70:=Tryz.zeroValue295
 t72:=Tryz.underlying297
 a72:=Tryz.isAgg297
 z72:=Tryz.sizeOf297
 v72:=Tryz.zeroValue297
 t75:=Tryz.underlying43
 a75:=Tryz.isAgg43
 z75:=Tryz.sizeOf43
 v75:=Tryz.zeroValue43
 t76:=Tryz.underlying44
 a76:=Tryz.isAgg44
 z76:=Tryz.sizeOf44
 v76:=Tryz.zeroValue44
 t109:=Tryz.underlying293
 a109:=Tryz.isAgg293
 z109:=Tryz.sizeOf293
 v109:=Tryz.zeroValue293
 t127:=Tryz.underlying269
 a127:=Tryz.isAgg269
 z127:=Tryz.sizeOf269
 v127:=Tryz.zeroValue269
 t146:=Tryz.underlying318
 a146:=Tryz.isAgg318
 z146:=Tryz.sizeOf318
 v146:=Tryz.zeroValue318
 t148:=Tryz.underlying321
 a148:=Tryz.isAgg321
 z148:=Tryz.sizeOf321
 v148:=Tryz.zeroValue321
 t164:=Tryz.underlying303
 a164:=Tryz.isAgg303
 z164:=Tryz.sizeOf303
 v164:=Tryz.zeroValue303}
end Go.Proofs
namespace Go.Proofs.YtihnldkgeelehaaGreatDoor
end Go.Proofs.YtihnldkgeelehaaGreatDoor
namespace Go.Proofs
open Go.Shelf Go.RowKit
theorem Tryz.Builder_Extra_105:Builder.Extra Tryz.prog Tryz.lays105_ren:={
 sizeBuilder:=by kernel_rfl
 liesBuilder:=by kernel_rfl
 t5:=Tryz.underlying5
 a5:=Tryz.isAgg5
 z5:=Tryz.sizeOf5
 v5:=Tryz.zeroValue5
 infoByte:=by kernel_rfl
 cellsByte:=by kernel_rfl
 sizeByte:=by kernel_rfl
 neB5:=by decide}
end Go.Proofs
namespace Go.Proofs.YtihnldkgeelehaaGreatDoor
open Go.Shelf Go.RowKit
theorem Qc (s:ByteArray) (w:World) (hlim:s.size<=281474976710656):
  Calls Tryz.prog 171 #[.string s] w fun e w'=>e= .returned (.string s)/\Below w.heap.size w w':=Any.stringslite_Clone Tryz.laysM316 s w hlim
theorem NX (s:ByteArray) (c:Nat) (w:World) (hc:c<=9223372036854775807) (hlen:s.size * c<=140737488355328):
  Calls Tryz.prog 197 #[.string s,.int .i64 c] w fun e w'=>e= .returned (.string ⟨(Lib.repeatL s.data.toList c).toArray⟩)/\Below w.heap.size w w':=Any.strings_Repeat Tryz.lays105 Tryz.Builder_Extra_105 s c w hc hlen
end Go.Proofs.YtihnldkgeelehaaGreatDoor
namespace Go.Proofs.YtihnldkgeelehaaGreatDoor
section
open Go.RowKit
def CR:ByteArray:=⟨(List.replicate 1024 (0:UInt8)).toArray⟩
theorem FG:CR.size=1024:=by
 show(List.replicate 1024 (0:UInt8)).toArray.size=1024;rw[List.size_toArray,List.length_replicate]
theorem PU {s:ByteArray} (h:s.size=1024):s.toList.isEmpty=false:=by
 rw[ByteArray.toList_eq]
 cases hl:s.data.toList with
 |nil=>have:s.size=s.data.toList.length:=by simp
       rw[hl,h]at this;cases this
 |cons a l=>rfl
structure Bo (b:Nat) (pg:Nat->ByteArray) (ends:Bool) (left torn:Int) (w:World):Prop where
 page:∀k,k<4001->(w.cell? ⟨b,k,none⟩=some (.string (pg k))/\(pg k).size=1024)\/(w.cell? ⟨b,k,none⟩=some (.string ⟨#[]⟩)/\pg k=CR)
 ends:w.cell? ⟨b,4001,none⟩=some (.bool ends)
 left:w.cell? ⟨b,4002,none⟩=some (.int .i64 left)
 torn:w.cell? ⟨b,4003,none⟩=some (.int .i64 torn)
 free:∀k,w.frozen? ⟨b,k,none⟩=false
theorem DO {w w':World} (h:Below w.heap.size w w') (row:Option Nat):w.grownBy w' row:=⟨h.os,h.tape,h.output,h.size,fun k hk _=>h.block k hk⟩
theorem Bo.lt {b:Nat} {pg:Nat->ByteArray} {ends:Bool} {left torn:Int} {w:World} (h:Bo b pg ends left torn w):b<w.heap.size:=World.block_lt_of_cell? w _ h.ends
theorem Bo.size {b:Nat} {pg:Nat->ByteArray} {ends:Bool} {left torn:Int} {w:World} (h:Bo b pg ends left torn w) (k:Nat) (hk:k<4001):(pg k).size=1024:=by
 rcases h.page k hk with⟨_,h1⟩|⟨_,h1⟩
 ·exact h1
 ·rw[h1,FG]
theorem Bo.block {b:Nat} {pg:Nat->ByteArray} {ends:Bool} {left torn:Int} {w w':World} (h:Bo b pg ends left torn w) (hb:w'.heap[b]? =w.heap[b]?):Bo b pg ends left torn w':=by
 have c:∀k,w'.cell? ⟨b,k,none⟩=w.cell? ⟨b,k,none⟩:=fun k=>World.cell?_of_block hb;refine⟨fun k hk=> ?_,?_,?_,?_,fun k=> ?_⟩
 ·rw[c];exact h.page k hk
 ·rw[c];exact h.ends
 ·rw[c];exact h.left
 ·rw[c];exact h.torn
 ·exact(World.frozen?_of_block (a:=⟨b,k,none⟩) hb).trans (h.free k)
theorem Bo.below {b:Nat} {pg:Nat->ByteArray} {ends:Bool} {left torn:Int} {w w':World} (h:Bo b pg ends left torn w) (hb:Below w.heap.size w w'):Bo b pg ends left torn w':=
 h.block (hb.block b h.lt)
theorem Px (k:Nat) (w:World) (hk:k<4001):Calls Tryz.prog 156 #[.int .i64 k] w fun e w'=>e= .returned (.bool true)/\w'=w:=by
 have h1:(k:Int)<4001:=by omega
 go_enter Tryz.func156,Tryz.ntmps156;go_wp2;go_ret;exact⟨Cb (by simp),rfl⟩
theorem Db (s:ByteArray) (w:World) (hs:s.size<=1024):Calls Tryz.prog 118 #[.string s] w fun e w'=>e= .returned (.string s)/\Below w.heap.size w w':=by
 go_enter Tryz.func118,Tryz.ntmps118;go_wp2_with fail;refine(Qc s w (by omega)).mono ?_;rintro _ w1 ⟨rfl,hb⟩;go_wp2;go_ret;exact⟨rfl,hb⟩
theorem Kj (w:World):Calls Tryz.prog 197 #[.string ⟨#[0]⟩,.int .i64 1024] w fun e w'=>e= .returned (.string CR)/\Below w.heap.size w w':=by
 have h:=NX ⟨#[0]⟩ 1024 w (by omega) (by show 1 * 1024<=_;omega)
 have e:Lib.repeatL (ByteArray.mk #[0]).data.toList 1024=List.replicate 1024 0:=by
  show Lib.repeatL [0] 1024=_;have h1:([0]:List UInt8)=List.replicate 1 0:=rfl;rw[h1,Lib.repeatL_replicate,Nat.mul_one]
 rw[e]at h;exact h
set_option maxHeartbeats 400000
theorem Ps {b:Nat} {pg:Nat->ByteArray} {ends:Bool} {left torn:Int} {w:World} (h:Bo b pg ends left torn w) (k:Nat) (hk:k<4001):
  Calls Tryz.prog 157 #[.pointer (some ⟨b,0,none⟩),.int .i64 k] w fun e w'=>e= .returned (.string (pg k))/\Below w.heap.size w w':=by
 have h1:(k:Int)<4001:=by omega
 rcases h.page k hk with⟨c,hs⟩|⟨c,hz⟩
 ·clear h
  have hne:=PU hs;generalize pg k=s at *;go_enter Tryz.func157,Tryz.ntmps157;go_wp2;go_ret;exact⟨rfl,Below.refl _ _⟩
 ·rw[hz]
  clear h;go_enter Tryz.func157,Tryz.ntmps157;go_wp2_with fail;refine(Kj w).mono ?_;rintro _ w1 ⟨rfl,hb⟩;go_wp2;go_ret;exact⟨rfl,hb⟩
def upd (pg:Nat->ByteArray) (k:Nat) (s:ByteArray):Nat->ByteArray:=fun i=>if i=k then s else pg i
section
variable {b:Nat} {pg:Nat->ByteArray} {ends:Bool} {left torn:Int} {w:World}
theorem Eg (W:World) (b o:Nat) (v:Value):W.grownBy (W.setCell ⟨b,o,none⟩ v) (some b):=
 ⟨rfl,rfl,rfl,by simp[World.setCell],fun k _ hk=>Below.heap_setCell W ⟨b,o,none⟩ v k (fun e=>hk (by rw[e]))⟩
theorem IU (h:Bo b pg ends left torn w) (k:Nat) (hk:k<4001):
  Calls Tryz.prog 104 #[.pointer (some ⟨b,0,none⟩),.int .i64 k] w fun e w'=>e= .returned (.tuple #[.string (pg k),.nilIface])/\Below w.heap.size w w':=by
 have hs:(pg k).size<=1024:=Nat.le_of_eq (h.size k hk);have HD:Hid (Bo b pg ends left torn w):=h;clear h;go_enter Tryz.func104,Tryz.ntmps104;go_wp2_with fail;refine(Px k w hk).mono ?_;rintro _ _ ⟨rfl,rfl⟩;go_wp2_with fail;refine(Ps HD.out k hk).mono ?_;rintro _ w1 ⟨rfl,hb1⟩;go_wp2_with fail;refine(Db _ w1 hs).mono ?_;rintro _ w2 ⟨rfl,hb2⟩;go_wp2;go_ret2;exact⟨rfl,hb1.trans (hb2.mono hb1.size)⟩
theorem Lr {P:Program} (w:World) (dT sT ty elem:TypeId) (g o dLen dCap:Nat) (s:ByteArray)
  (hu:P.underlying dT=some (.slice elem)) (hs:(P.info? elem).map (·.size)=some 1) (hle:s.size<=dLen) (hc:∀j,j<s.size->(w.cell? ⟨g,o+j,none⟩).isSome=true) (hf:∀j,j<s.size->w.frozen? ⟨g,o+j,none⟩=false):
  (Builtin.copy_ #[dT,sT] ty #[.slice (some ⟨g,o,none⟩) dLen dCap,.string s]).run P w= .ok (goInt s.size) (w.setCells g o (Lib.byteCells s.data.toList)):=by
 have hlen:(Lib.byteCells s.data.toList).length=s.size:=by rw[Lib.byteCells_length,<-Lib.size_eq]
 have hst:=run_storeCells_cells (P:=P) g o (Lib.byteCells s.data.toList) 0 w (by rw[hlen];simpa using hc) (by rw[hlen];simpa using hf) (Lib.byteCells_one _);have hmin:Nat.min s.size dLen=s.size:=Nat.min_eq_left hle
 have htk:List.take s.size (List.map (fun b:UInt8=>Value.int IntKind.u8 (b.toNat:Int)) s.data.toList)=Lib.byteCells s.data.toList:=by
  rw[List.take_of_length_le (by rw[List.length_map,<-Lib.size_eq];exact Nat.le_refl _)];rfl
 simp only[Nat.add_zero]at hst
 cases hq:P.info? elem with
 |none=>simp[hq]at hs
 |some i=>
  simp[Builtin.copy_,run_underlying hu,Builtin.lenOf,Builtin.firstCells,sizeOf,typeInfo,hq,hmin];rw[htk,hst];simp[Result.andThen]
end
section
variable {b:Nat} {pg:Nat->ByteArray} {ends:Bool} {left torn:Int} {w:World}
end
structure St where
 pg:Nat->ByteArray
 ends:Bool
 left:Int
 torn:Nat
def Prg (b:Nat) (s:St) (w:World):Prop:=Bo b s.pg s.ends s.left s.torn w
theorem FE {b:Nat} {s:St} {w:World} (h:Prg b s w) (k:Nat) (hk:k<4001):(s.pg k).size=1024:=Bo.size h k hk
theorem Uq:Tryz.zeroCells78.toList=List.replicate 4001 (.string ⟨#[]⟩)++[.bool false,.int .i64 0,.int .i64 0]:=by kernel_rfl
theorem So (w:World):Prg w.heap.size ⟨fun _=>CR,false,0,0⟩ (w.alloc (.cells Tryz.zeroCells78 78)):=by
 have hn:(w.alloc (.cells Tryz.zeroCells78 78)).heap[w.heap.size]? =some (.cells Tryz.zeroCells78 78):=heap_alloc_new w _;have hc:∀k:Nat,(w.alloc (.cells Tryz.zeroCells78 78)).cell? ⟨w.heap.size,k,none⟩=Tryz.zeroCells78[k]? :=fun k=>by simp only[World.cell?,hn];simp
 have hl:∀k:Nat,Tryz.zeroCells78[k]? =(List.replicate 4001 (Value.string ⟨#[]⟩)++[Value.bool false,Value.int .i64 0,Value.int .i64 0])[k]? :=fun(k:Nat)=>by rw[<-Uq,Array.getElem?_toList]
 refine⟨fun k hk=> .inr ⟨?_,rfl⟩,?_,?_,?_,fun k=> ?_⟩
 ·rw[hc,hl,List.getElem?_append_left (by rw[List.length_replicate];exact hk),List.getElem?_replicate,if_pos hk]
 ·rw[hc,hl,List.getElem?_append_right (by rw[List.length_replicate];omega),List.length_replicate];rfl
 ·rw[hc,hl,List.getElem?_append_right (by rw[List.length_replicate];omega),List.length_replicate];rfl
 ·rw[hc,hl,List.getElem?_append_right (by rw[List.length_replicate];omega),List.length_replicate];rfl
 ·simp only[World.frozen?,hn];simp
end
section
open Go.RowKit Go.Maps
theorem Prg.only {S:Nat->Prop} {b:Nat} {s:St} {w w':World} (h:Prg b s w) (ho:Aa S w w') (hs:¬S b):Prg b s w':=Bo.block h (ho.block b (Bo.lt h) hs)
theorem Prg.below {b:Nat} {s:St} {w w':World} (h:Prg b s w) (hb:Below w.heap.size w w'):Prg b s w':=Bo.below h hb
theorem Prg.drew {b:Nat} {s:St} {w:World} (h:Prg b s w):Prg b s w.drew:=Bo.block h rfl
theorem Am.nd {bp bd bm n:Nat} {p:Pg} {s:St} {w:World} (h:Am bp bd bm n p w) (k:Prg bd s w):bp≠bd:=fun e=>by
 subst e;have h1:=h.cells.cell 0 (by omega);rcases Bo.page k 0 (by omega)with⟨h2,_⟩|⟨h2,_⟩<;>(rw[h1]at h2;cases h2)
theorem Am.md {bp bd bm n:Nat} {p:Pg} {s:St} {w:World} (h:Am bp bd bm n p w) (k:Prg bd s w):bm≠bd:=h.own.ne_cell (Bo.ends k)
structure Row (bp:Nat) (v:Nat->Value) (w:World):Prop where
 cell:∀k,k<4020->w.cell? ⟨bp,k,none⟩=some (v k)
 free:∀k,w.frozen? ⟨bp,k,none⟩=false
section
variable {bp:Nat} {v:Nat->Value} {w w':World}
theorem Row.lt (h:Row bp v w):bp<w.heap.size:=World.block_lt_of_cell? w _ (h.cell 0 (by omega))
theorem Row.block (h:Row bp v w) (hb:w'.heap[bp]? =w.heap[bp]?):Row bp v w':=
 ⟨fun k hk=>(World.cell?_of_block hb).trans (h.cell k hk),fun k=>(World.frozen?_of_block (a:=⟨bp,k,none⟩) hb).trans (h.free k)⟩
theorem Row.below (h:Row bp v w) (hb:Below w.heap.size w w'):Row bp v w':=h.block (hb.block _ h.lt)
theorem Row.there (h:Row bp v w) (o n:Nat) (ho:o+n<=4020):w.there bp o n:=fun j hj=>⟨by rw[h.cell _ (by omega)];rfl,h.free _⟩
def FU (v:Nat->Value) (o:Nat) (vs:List Value):Nat->Value:=fun k=>if o<=k then(vs[k-o]?).getD (v k)else v k
theorem Row.setN (h:Row bp v w) (o:Nat) (vs:List Value) (ho:o+vs.length<=4020):Row bp (FU v o vs) (w.setCells bp o vs):=by
 refine⟨fun k hl=> ?_,fun k=>by rw[World.frozen?_setCells];exact h.free k⟩
 by_cases e:k<o\/o+vs.length<=k
 ·rw[World.cell?_setCells_out bp vs o w ⟨bp,k,none⟩ (fun _ _=>e),h.cell k hl]
  congr 1;unfold FU;split
  ·rw[List.getElem?_eq_none (by omega)];rfl
  ·rfl
 ·obtain⟨j,rfl⟩:∃j,k=o+j:=⟨k-o,by omega⟩
  have hj:j<vs.length:=by omega
  rw[World.cell?_setCells_in bp vs o w (fun i hi=>by rw[h.cell _ (by omega)];rfl) j hj];unfold FU;rw[if_pos (by omega),show o+j-o=j by omega,List.getElem?_eq_getElem hj];rfl
theorem Row.set (h:Row bp v w) (o:Nat) (x:Value) (ho:o<4020):Row bp (FU v o [x]) (w.setCell ⟨bp,o,none⟩ x):=by
 refine⟨fun k hl=> ?_,fun k=>by rw[World.frozen?_setCell];exact h.free k⟩
 by_cases e:k=o
 ·subst e
  rw[World.cell?_setCell_same _ _ _ (h.cell k hl)];unfold FU;rw[if_pos (Nat.le_refl _),Nat.sub_self];rfl
 ·rw[World.cell?_setCell_other _ _ _ _ (fun e'=>e (by injection e' with e1 e2;omega)),h.cell k hl]
  congr 1;unfold FU;split
  ·rw[List.getElem?_eq_none (by simp;omega)];rfl
  ·rfl
theorem Fz (v:Nat->Value) (o:Nat) (vs:List Value) {j:Nat} {x:Value} (h:vs[j]? =some x):FU v o vs (o+j)=x:=by
 unfold FU;rw[if_pos (by omega),show o+j-o=j by omega,h];rfl
theorem AK (v:Nat->Value) (o:Nat) (vs:List Value) {k:Nat} (h:k<o\/o+vs.length<=k):FU v o vs k=v k:=by
 unfold FU;split
 ·rw[List.getElem?_eq_none (by omega)];rfl
 ·rfl
end
theorem Row.cells {bp bd bm:Nat} {p:Pg} {v:Nat->Value} {w:World} (h:Row bp v w) (hv:∀k,k<4020->v k=BL p bd bm k):Bb bp bd bm p w:=
 ⟨fun k hk=>by rw[h.cell k hk,hv k hk],h.free⟩
theorem Bb.row {bp bd bm:Nat} {p:Pg} {w:World} (h:Bb bp bd bm p w):Row bp (BL p bd bm) w:=⟨h.cell,h.free⟩
theorem Aa.set (bp o:Nat) (v:Value) (w:World):Aa (fun b=>b=bp) w (w.setCell ⟨bp,o,none⟩ v):=Aa.of_grown (Eg w bp o v) rfl
theorem Aa.setCells (bp:Nat):∀(vs:List Value) (o:Nat) (w:World),Aa (fun b=>b=bp) w (w.setCells bp o vs)
 | [],_,w=>Aa.refl _ w
 |v::r,o,w=>(Aa.set bp o v w).trans (Aa.setCells bp r (o+1) (w.setCell ⟨bp,o,none⟩ v)) (fun _ h=> .inl h)
theorem Aa.alloc (bp:Nat) (o:Obj) (w:World):Aa (fun b=>b=bp) w (w.alloc o):=Aa.of_below ((Below.refl _ _).alloc (Nat.le_refl _) _)
def Ce (pg:Nat->ByteArray):ByteArray:=pg (Fa 0 ((pg 4000).data.toList.getD 0 0 != 0))
def GZ (pg:Nat->ByteArray) (commits:Int) (down:Bool):Pg:=
 ⟨A7 (Ce pg),AX (Ce pg),Gs (Ce pg),FN (Ce pg),fun _=>none,commits,down⟩
theorem GT (k:Nat) (hk:k<2000) (b:Bool):Fa k b<4001:=by unfold Fa;split<;>omega
theorem Qn (pg:Nat->ByteArray) (h:0<(pg 4000).size):pg (Fa 0 (((pg 4000)[0].toNat:Int) != 0))=Ce pg:=by
 unfold Ce
 have e0:(pg 4000).data.toList.getD 0 0=(pg 4000)[0]:=by
  have hl:0<(pg 4000).data.toList.length:=by simpa using h
  rw[List.getD_eq_getElem?_getD,List.getElem?_eq_getElem hl];rfl
 rw[e0];congr 2
 by_cases e:(pg 4000)[0]=0
 ·rw[e];rfl
 ·have h1:((pg 4000)[0] != 0)=true:=by simpa using e
  have h2:((pg 4000)[0]).toNat≠0:=fun h3=>e (by apply UInt8.toNat_inj.1;rw[h3];rfl);rw[h1];simp only[bne_iff_ne,ne_eq];omega
theorem LC {bd bm:Nat} {v:Nat->Value} (pg:Nat->ByteArray) (c:Int) (d:Bool) (hv0:v 0= .pointer (some ⟨bd,0,none⟩)) (h18:v 4018= .int .i64 c) (h19:v 4019= .bool d) (F G R:List Value)
  (hF:AG (AX (Ce pg))=F) (hG:AG (A7 (Ce pg))=G) (hR:BI (Gs (Ce pg)) (FN (Ce pg))=R) (k:Nat) (hk:k<4020):
  FU (FU (FU (FU v 2001 F) 1 G) 4001 R) 4017 [.map (some bm)] k=BL (GZ pg c d) bd bm k:=by
 have lF:F.length=2000:=by rw[<-hF,Au]
 have lG:G.length=2000:=by rw[<-hG,Au]
 have lR:R.length=16:=by rw[<-hR,AZ]
 by_cases h0:k=0
 ·subst h0
  rw[AK _ _ _ (by omega),AK _ _ _ (by omega),AK _ _ _ (by omega),AK _ _ _ (by omega),hv0];rfl
 by_cases h1:k<2001
 ·obtain⟨j,rfl⟩:∃j,k=1+j:=⟨k-1,by omega⟩
  rw[AK _ _ _ (by omega),AK _ _ _ (by omega),Fz (x:= .bool (A7 (Ce pg) j)) _ _ _ (by rw[<-hG,CE _ (by omega)]),GH _ _ _ (by omega)];rfl
 by_cases h2:k<4001
 ·obtain⟨j,rfl⟩:∃j,k=2001+j:=⟨k-2001,by omega⟩
  rw[AK _ _ _ (by omega),AK _ _ _ (by omega),AK _ _ _ (by omega),Fz (x:= .bool (AX (Ce pg) j)) _ _ _ (by rw[<-hF,CE _ (by omega)]),Cg _ _ _ (by omega)];rfl
 by_cases h3:k<4017
 ·obtain⟨j,rfl⟩:∃j,k=4001+j:=⟨k-4001,by omega⟩
  rw[AK _ _ _ (by omega),Fz (x:= .int .i64 (if j % 2=0 then Gs (Ce pg) (j / 2)else FN (Ce pg) (j / 2))) _ _ _ (by rw[<-hR,DF _ _ (by omega)]),BF _ _ _ (by omega)];rfl
 by_cases h4:k=4017
 ·subst h4
  exact Fz _ 4017 _ (j:=0) rfl
 rw[AK _ _ _ (by simp;omega),AK _ _ _ (by omega),AK _ _ _ (by omega),AK _ _ _ (by omega)]
 by_cases h5:k=4018
 ·subst h5;rw[h18];rfl
 ·obtain rfl:k=4019:=by omega
  rw[h19];rfl
set_option maxHeartbeats 800000
theorem RJ {bp bd:Nat} {v:Nat->Value} {s:St} {w:World} (hR:Row bp v w) (hv0:v 0= .pointer (some ⟨bd,0,none⟩)) (c:Int) (d:Bool) (h18:v 4018= .int .i64 c) (h19:v 4019= .bool d) (hD:Prg bd s w) (hne:bp≠bd):
  Calls Tryz.prog 49 #[.pointer (some ⟨bp,0,none⟩)] w fun e w'=>e= .returned (.tuple #[])/\(∃bm,w.heap.size<=bm/\Am bp bd bm 0 (GZ s.pg c d) w')/\Prg bd s w'/\Aa (fun b=>b=bp) w w':=by
 have q0:=hR.cell 0 (by omega);rw[hv0]at q0;have HR:Hid _:=hR;have HD:Hid _:=hD;clear hR hD;go_enter Tryz.func49,Tryz.ntmps49;go_wp2_with fail;refine(IU HD.out 4000 (by omega)).mono ?_;rintro _ w1 ⟨rfl,hb1⟩;have hT:(s.pg 4000).size=1024:=FE HD.out 4000 (by omega);have hT0:0<(s.pg 4000).size:=by omega
 have hT0':(0:Int)<((s.pg 4000).size:Int):=by omega
 have HK:Hid (∀wx,Below w1.heap.size w1 wx->wx.cell? ⟨bp,0,none⟩=some (.pointer (some ⟨bd,0,none⟩))):=fun wx hx=>by
  rw[hx.cell (p:=⟨bp,0,none⟩) (by have:=HR.out.lt;have:=hb1.size;show bp<_;omega),hb1.cell (p:=⟨bp,0,none⟩) HR.out.lt];exact q0
 have HDx:Hid (∀wx,Below w1.heap.size w1 wx->Prg bd s wx):=fun wx hx=>(HD.out.below hb1).below hx;have q1:=HK.out _ (Below.refl _ _);go_wp2_with fail
 go_region_held3 (fun wx=>wx.cell? ⟨bp,0,none⟩=some (.pointer (some ⟨bd,0,none⟩))) (first|exact HK.out _ HB.out|exact HK.out _ (Below.refl _ _).drew) (first|(go_at_call 105;refine(KA 0 (by omega) _ _).mono ?_;rintro _ wy ⟨rfl,hwy⟩;subst wy)|(go_at_call 104;refine(IU (HDx.out _ (Below.refl _ _).drew) _ (GT 0 (by omega) _)).mono ?_;rintro _ wy ⟨rfl,hb⟩;have HB:Hid (Below w1.heap.size w1 wy):=(Below.refl _ w1).drew.trans hb))
 obtain⟨P,hP⟩:∃P,s.pg (Fa 0 (((s.pg 4000)[0].toNat:Int) != 0))=P:=⟨_,rfl⟩;have hPs:P.size=1024:=by rw[<-hP];exact FE HD.out _ (GT 0 (by omega) _)
 have HP:Hid (P=Ce s.pg):=by rw[<-hP];exact Qn s.pg hT0
 rw[hP];clear hP;have hmm:= @run_makeMap Tryz.prog;go_wp2_with fail;refine(L5 P hPs _).mono ?_;rintro _ w2 ⟨rfl,hb2⟩;have hb3:Below w.heap.size w w2:=hb1.trans ((HB.out.trans (hb2.mono HB.out.size)).mono hb1.size);have hr2:Row bp v w2:=HR.out.below hb3;have hd2:Prg bd s w2:=HD.out.below hb3;obtain⟨F,hF⟩:∃F,AG (AX P)=F:=⟨_,rfl⟩;obtain⟨G,hG⟩:∃G,AG (A7 P)=G:=⟨_,rfl⟩;obtain⟨R,hR⟩:∃R,BI (Gs P) (FN P)=R:=⟨_,rfl⟩;have lF:F.length=2000:=by rw[<-hF,Au]
 have lG:G.length=2000:=by rw[<-hG,Au]
 have lR:R.length=16:=by rw[<-hR,AZ]
 have sF:(Tryz.prog.info? 32).map (·.size)=some F.toArray.size:=by rw[<-hF];exact Dl _
 have sG:(Tryz.prog.info? 32).map (·.size)=some G.toArray.size:=by rw[<-hG];exact Dl _
 have sR:(Tryz.prog.info? 35).map (·.size)=some R.toArray.size:=by rw[<-hR];exact Mp _ _
 have oF:=all_oneCell_toArray (show ∀v∈F,v.oneCell'=true by rw[<-hF];exact CD _);have oG:=all_oneCell_toArray (show ∀v∈G,v.oneCell'=true by rw[<-hG];exact CD _);have oR:=all_oneCell_toArray (show ∀v∈R,v.oneCell'=true by rw[<-hR];exact FM _ _);have r3:=hr2.setN 2001 F (by omega);have r4:=r3.setN 1 G (by omega);have r5:=r4.setN 4001 R (by omega);have T0:Hid (w2.there bp 2001 F.toArray.size):=hr2.there _ _ (by rw[List.size_toArray];omega);have T1:Hid ((w2.setCells bp 2001 F).there bp 1 G.toArray.size):=r3.there _ _ (by rw[List.size_toArray];omega);have T2:Hid (((w2.setCells bp 2001 F).setCells bp 1 G).there bp 4001 R.toArray.size):=r4.there _ _ (by rw[List.size_toArray];omega);rw[hF,hG,hR];have HE:Hid (AG (AX P)=F/\AG (A7 P)=G/\BI (Gs P) (FN P)=R):=⟨hF,hG,hR⟩;have HL:Hid (F.length=2000/\G.length=2000/\R.length=16):=⟨lF,lG,lR⟩;have H5:Hid _:=r5;have r6:=r5.below ((Below.refl _ _).alloc (o:= .map #[] 0) (Nat.le_refl _));have q17:=r6.cell 4017 (by omega);have f17:=r6.free 4017;have H6:Hid _:=r6.set 4017 (.map (some (((w2.setCells bp 2001 F).setCells bp 1 G).setCells bp 4001 R).heap.size)) (by omega);have HD2:Hid _:=hd2;have HB3:Hid _:=hb3;clear r6 hF hG hR lF lG lR r3 r4 r5 hr2 hd2 hb2 hb3 hb1 HB q1
 go_wp2_with (first|(refine wpList_store_mid rfl 32 _ _ rfl bp 2001 F.toArray rfl rfl T0.out sF oF ?_)|(refine wpList_store_mid rfl 32 _ _ rfl bp 1 G.toArray rfl rfl T1.out sG oG ?_)|(refine wpList_store_mid rfl 35 _ _ rfl bp 4001 R.toArray rfl rfl T2.out sR oR ?_))
 go_end0;have hs4:w2.heap.size<=(((w2.setCells bp 2001 F).setCells bp 1 G).setCells bp 4001 R).heap.size:=Nat.le_trans (Aa.setCells bp F 2001 w2).size (Nat.le_trans (Aa.setCells bp G 1 _).size (Aa.setCells bp R 4001 _).size);have ho:Aa (fun b=>b=bp) w2 (((w2.setCells bp 2001 F).setCells bp 1 G).setCells bp 4001 R):=((Aa.setCells bp F 2001 w2).trans (Aa.setCells bp G 1 _) (fun _ h=> .inl h)).trans (Aa.setCells bp R 4001 _) (fun _ h=> .inl h);have hown:=World.ownsMap_made (H:=Unit) (((w2.setCells bp 2001 F).setCells bp 1 G).setCells bp 4001 R) Tryz.prog 3 CW;generalize (((w2.setCells bp 2001 F).setCells bp 1 G).setCells bp 4001 R)=w4 at *;have ho2:Aa (fun b=>b=bp) w4 ((w4.alloc (.map #[] 0)).setCell ⟨bp,4017,none⟩ (.map (some w4.heap.size))):=(Aa.alloc bp _ w4).trans (Aa.set bp 4017 _ _) (fun _ h=> .inl h);have ho3:=ho.trans ho2 (fun _ h=> .inl h);have hbp:bp<w2.heap.size:=Nat.lt_of_lt_of_le HR.out.lt HB3.out.size;have hs:=HB3.out.size;refine⟨rfl,⟨w4.heap.size,by omega,?_,?_⟩,Prg.only (s:=s) HD2.out ho3 (fun e=>hne e.symm),(Aa.of_below HB3.out).trans ho3 (fun _ h=> .inl h)⟩
 ·have:=HP.out
  subst this;exact H6.out.cells (fun k hk=>LC s.pg c d hv0 h18 h19 F G R HE.out.1 HE.out.2.1 HE.out.2.2 k hk)
 ·have hS:Az w4.heap.size 0 (fun _=>none) (w4.alloc (.map #[] 0)):=⟨_,hown,MK⟩
  exact hS.only (Aa.set bp 4017 _ _) (fun e=>by omega)
theorem NA:Tryz.zeroCells89.size=4020:=by kernel_rfl
theorem Pm:Tryz.zeroCells89[4019]? =some (.bool false):=by kernel_rfl
theorem NT (bd:Nat) (A:Array Value) (hA:(Tryz.zeroCells89.setIfInBounds 0 (.pointer (some ⟨bd,0,none⟩))).setIfInBounds 4018 (.int .i64 1)=A):
  A.size=4020/\A[0]? =some (.pointer (some ⟨bd,0,none⟩))/\A[4018]? =some (.int .i64 1)/\A[4019]? =some (.bool false):=by
 subst hA;refine⟨by rw[Array.size_setIfInBounds,Array.size_setIfInBounds,NA],?_,?_,?_⟩
 ·rw[Array.getElem?_setIfInBounds_ne (by omega),Array.getElem?_setIfInBounds_self_of_lt (by rw[NA];omega)]
 ·rw[Array.getElem?_setIfInBounds_self_of_lt (by rw[Array.size_setIfInBounds,NA];omega)]
 ·rw[Array.getElem?_setIfInBounds_ne (by omega),Array.getElem?_setIfInBounds_ne (by omega),Pm]
theorem RI (A:Array Value) (hs:A.size=4020) (w:World):Row w.heap.size (fun k=>(A[k]?).getD undef) (w.alloc (.cells A 89)):=by
 have hn:(w.alloc (.cells A 89)).heap[w.heap.size]? =some (.cells A 89):=heap_alloc_new w _;refine⟨fun k hk=> ?_,fun k=>by simp only[World.frozen?,hn];simp⟩;rw[cell_of_row _ _ _ _ _ _ hn];have hl:k<A.size:=by rw[hs];exact hk
 show A[k]? =some ((A[k]?).getD undef);rw[Array.getElem?_eq_getElem hl];rfl
theorem RB {bd:Nat} {s:St} {w:World} (hD:Prg bd s w):
  Calls Tryz.prog 20 #[.pointer (some ⟨bd,0,none⟩)] w fun e w'=>∃bp bm,e= .returned (.tuple #[.pointer (some ⟨bp,0,none⟩),.nilIface])/\w.heap.size<=bp/\w.heap.size<=bm/\Am bp bd bm 0 (GZ s.pg 1 false) w'/\Prg bd s w'/\Below w.heap.size w w':=by
 have HD:Hid _:=hD;clear hD;go_enter Tryz.func20,Tryz.ntmps20;go_wp2_with fail;obtain⟨A,hA⟩:∃A,(Tryz.zeroCells89.setIfInBounds 0 (.pointer (some ⟨bd,0,none⟩))).setIfInBounds 4018 (.int .i64 1)=A:=⟨_,rfl⟩;rw[hA];obtain⟨a1,a2,a3,a4⟩:=NT bd A hA;clear hA;have hr:=RI A a1 w;have hd:Prg bd s (w.alloc (.cells A 89)):=Prg.below (s:=s) HD.out ((Below.refl _ _).alloc (Nat.le_refl _) _);have hlt:bd<w.heap.size:=Bo.lt HD.out;refine(RJ (bp:=w.heap.size) (bd:=bd) (s:=s) hr (by rw[a2];rfl) 1 false (by rw[a3];rfl) (by rw[a4];rfl) hd (by omega)).mono ?_;rintro _ w1 ⟨rfl,⟨bm,hbm,hP⟩,hD1,hO⟩;have hsz:(w.alloc (.cells A 89)).heap.size=w.heap.size+1:=World.size_alloc _ _;have HB:Hid (Below w.heap.size w w1):=Aa.below ((Below.refl _ _).alloc (o:= .cells A 89) (Nat.le_refl _)) hO (by omega) (fun i hi=>by omega);have HP:Hid _:=hP;have HD1:Hid _:=hD1;have HM:Hid (w.heap.size<=bm):=by rw[hsz]at hbm;exact(by omega:w.heap.size<=bm)
 clear hP hD1 hO hr hd hbm a1 a2 a3 a4;go_wp2;go_ret2;exact⟨w.heap.size,bm,rfl,Nat.le_refl _,HM.out,HP.out,HD1.out,HB.out⟩
section
variable {bp bd bm n:Nat} {p:Pg} {s:St} {w:World}
theorem Sm (h:Bb bp bd bm p w):Calls Tryz.prog 199 #[.pointer (some ⟨bp,0,none⟩)] w fun e w'=>e= .returned (.bool p.down)/\w'=w:=by
 have q:=h.cell 4019 (by omega);rw[Ds]at q;clear h;go_enter Tryz.func199,Tryz.ntmps199;go_wp2;go_ret;exact⟨rfl,rfl⟩
def FZ (n:Int):Value:=if n=0 then .nilIface else .iface 101 (.int .i64 n)
def Pg.code (p:Pg) (k:Int):Int:=if 0<=k/\k<2000/\p.used k.toNat=true then(if p.down then 6 else 0)else 2
theorem Pg.code_no {p:Pg} {k:Int} (h:¬(0<=k/\k<2000/\p.used k.toNat=true)):p.code k=2:=if_neg h
theorem Pg.code_yes {p:Pg} {k:Int} (h:0<=k/\k<2000/\p.used k.toNat=true):p.code k=if p.down then 6 else 0:=if_pos h
set_option maxHeartbeats 400000
theorem GS (h:Bb bp bd bm p w) (k:Int):Calls Tryz.prog 201 #[.pointer (some ⟨bp,0,none⟩),.int .i64 k] w fun e w'=>∃E,e= .returned E/\E=FZ (p.code k)/\w'=w:=by
 by_cases h0:0<=k/\k<2000
 ·obtain⟨j,rfl⟩:∃j:Nat,k=j:=⟨k.toNat,by omega⟩
  have hj:j<2000:=by omega
  have h1:(j:Int)<2000:=by omega
  have q:=h.cell (2001+j) (by omega);rw[Cg _ _ _ hj]at q;have q2:=h.cell 4019 (by omega);rw[Ds]at q2;clear h
  cases hu:p.used j
  ·rw[hu]at q
   rw[Pg.code_no (fun e=>by rw[Int.toNat_natCast,hu]at e;cases e.2.2)];go_enter Tryz.func201,Tryz.ntmps201;go_wp2_with fail;refine(CG j 2000 w).mono ?_;rintro _ wa ⟨rfl,hw⟩;subst wa;rw[decide_eq_true (show(0:Int)<=j by omega),decide_eq_true h1];go_wp2;go_ret;exact⟨_,rfl,rfl,rfl⟩
  ·rw[hu]at q
   rw[Pg.code_yes ⟨by omega,h1,by rw[Int.toNat_natCast];exact hu⟩]
   cases hd:p.down
   ·rw[hd]at q2
    go_enter Tryz.func201,Tryz.ntmps201;go_wp2_with fail;refine(CG j 2000 w).mono ?_;rintro _ wa ⟨rfl,hw⟩;subst wa;rw[decide_eq_true (show(0:Int)<=j by omega),decide_eq_true h1];go_wp2;go_ret;exact⟨_,rfl,rfl,rfl⟩
   ·rw[hd]at q2
    go_enter Tryz.func201,Tryz.ntmps201;go_wp2_with fail;refine(CG j 2000 w).mono ?_;rintro _ wa ⟨rfl,hw⟩;subst wa;rw[decide_eq_true (show(0:Int)<=j by omega),decide_eq_true h1];go_wp2;go_ret;exact⟨_,rfl,rfl,rfl⟩
 ·clear h
  rw[Pg.code_no (fun e=>h0 ⟨e.1,e.2.1⟩)]
  have hb:(decide (0<=k) && decide (k<2000))=false:=by
   cases hx:(decide (0<=k) && decide (k<2000))
   ·rfl
   ·simp at hx;exact absurd hx h0
  go_enter Tryz.func201,Tryz.ntmps201;go_wp2_with fail;refine(CG k 2000 w).mono ?_;rintro _ wa ⟨rfl,hw⟩;subst wa;rw[hb];go_wp2;go_ret;exact⟨_,rfl,rfl,rfl⟩
theorem Rq (h:Bb bp bd bm p w) (i:Nat) (hi:i<8):Calls Tryz.prog 107 #[.pointer (some ⟨bp,0,none⟩),.int .i64 i] w fun e w'=>e= .returned (.tuple #[.int .i64 (p.rp i),.int .i64 (p.rn i),.nilIface])/\Below w.heap.size w w':=by
 have h1:(i:Int)<8:=by omega
 have q1:=h.cell (4001+i * 2) (by omega);have q2:=h.cell (4001+i * 2+1) (by omega);rw[BF _ _ _ (by omega),if_pos (by omega),show i * 2 / 2=i by omega]at q1;rw[show 4001+i * 2+1=4001+(i * 2+1) by omega,BF _ _ _ (by omega),if_neg (by omega),show(i * 2+1) / 2=i by omega,<-Nat.add_assoc]at q2;clear h;go_enter Tryz.func107,Tryz.ntmps107;go_wp2_with fail;refine(CG i 8 w).mono ?_;rintro _ wa ⟨rfl,hw⟩;subst wa;rw[decide_eq_true (show(0:Int)<=i by omega),decide_eq_true h1];go_wp2;go_quiet (fail);go_wp2
 go_ret3
 exact⟨rfl,((Below.refl _ _).alloc (Nat.le_refl _) _).trans ⟨rfl,rfl,rfl,Nat.le_refl _,fun _ _=>rfl⟩⟩
end
theorem GV (v:Nat->Value) (o:Nat) (x:Value):FU v o [x] o=x:=Fz v o [x] (j:=0) rfl
def inB (k b:Int):Bool:=decide (0<=k) && decide (k<b)
def Pg.setRoot (p:Pg) (i:Nat) (k t:Int):Pg:={p with rp:=fun j=>if j=i then k else p.rp j,rn:=fun j=>if j=i then t else p.rn j}
section
variable {bp bd bm n:Nat} {p:Pg} {s:St} {w:World}
theorem Bb.setRoot (h:Bb bp bd bm p w) (i:Nat) (hi:i<8) (k t:Int):Bb bp bd bm (p.setRoot i k t) ((w.setCell ⟨bp,4001+i * 2,none⟩ (.int .i64 k)).setCell ⟨bp,4001+i * 2+1,none⟩ (.int .i64 t)):=by
 have h1:=(h.row.set (4001+i * 2) (.int .i64 k) (by omega)).set (4001+i * 2+1) (.int .i64 t) (by omega);refine h1.cells fun j hj=> ?_
 by_cases e2:j=4001+i * 2+1
 ·subst e2
  rw[GV,show 4001+i * 2+1=4001+(i * 2+1) by omega,BF _ _ _ (by omega),if_neg (by omega),show(i * 2+1) / 2=i by omega];simp[Pg.setRoot]
 ·rw[AK _ _ _ (by simp;omega)]
  by_cases e1:j=4001+i * 2
  ·subst e1
   rw[GV,BF _ _ _ (by omega),if_pos (by omega),show(i * 2) / 2=i by omega];simp[Pg.setRoot]
  ·rw[AK _ _ _ (by simp;omega)]
   by_cases e3:4001<=j/\j<4017
   ·obtain⟨m,rfl⟩:∃m,j=4001+m:=⟨j-4001,by omega⟩
    rw[BF _ _ _ (by omega),BF _ _ _ (by omega)]
    by_cases e:m % 2=0
    ·rw[if_pos e,if_pos e]
     simp only[Pg.setRoot];rw[if_neg (by omega)]
    ·rw[if_neg e,if_neg e]
     simp only[Pg.setRoot];rw[if_neg (by omega)]
   ·unfold BL
    by_cases a0:j=0
    ·rw[if_pos a0,if_pos a0]
    rw[if_neg a0,if_neg a0]
    by_cases a1:j<2001
    ·rw[if_pos a1,if_pos a1];rfl
    rw[if_neg a1,if_neg a1]
    by_cases a2:j<4001
    ·rw[if_pos a2,if_pos a2];rfl
    rw[if_neg a2,if_neg a2,if_neg (show ¬j<4017 by omega),if_neg (show ¬j<4017 by omega)];rfl
set_option maxHeartbeats 400000
theorem Mr (h:Bb bp bd bm p w) (hd:p.down=false) (i:Nat) (hi:i<8) (k t:Int) (hk:inB k 2000=true) (ht:inB t 65536=true):
  Calls Tryz.prog 214 #[.pointer (some ⟨bp,0,none⟩),.int .i64 i,.int .i64 k,.int .i64 t] w fun e w'=>e= .returned .nilIface/\Bb bp bd bm (p.setRoot i k t) w'/\Aa (fun b=>b=bp) w w':=by
 have h1:(i:Int)<8:=by omega
 have q:=h.cell 4019 (by omega);rw[Ds,hd]at q;have q1:=h.cell (4001+i * 2) (by omega);have q2:=h.cell (4001+i * 2+1) (by omega);have f1:=h.free (4001+i * 2);have f2:=h.free (4001+i * 2+1);have HC:Hid _:=h.setRoot i hi k t;clear h;go_enter Tryz.func214,Tryz.ntmps214;go_wp2_with fail;refine(CG i 8 w).mono ?_;rintro _ wa ⟨rfl,hw⟩;subst wa;rw[decide_eq_true (show(0:Int)<=i by omega),decide_eq_true h1];go_wp2_with fail;refine(CG k 2000 w).mono ?_;rintro _ wa ⟨rfl,hw⟩;subst wa;rw[show(decide (0<=k) && decide (k<2000))=true from hk];go_wp2_with fail;refine(CG t 65536 w).mono ?_;rintro _ wa ⟨rfl,hw⟩;subst wa;rw[show(decide (0<=t) && decide (t<65536))=true from ht];go_wp2;go_ret;exact⟨rfl,HC.out,(Aa.set bp _ _ w).trans (Aa.set bp _ _ _) (fun _ h=> .inl h)⟩
end
theorem NZ (k:Nat) (hk:k<2000):keyOf Tryz.prog 3 (.int .i64 k)=some (.int .i64 k):=keyOf_int_mk Tryz.underlying3 (Ur k (by omega))
theorem Up (w:World):(zeroValue 147).run Tryz.prog w= .ok (.agg #[.string ⟨#[]⟩]) w:=by kernel_rfl
theorem KY {a b:ByteArray} (h:a.data.toList=b.data.toList):a=b:=by
 cases a;cases b
 congr;exact Array.toList_inj.1 h
section
variable {ops:Array Oper} {rest:List Oper} {o:Oper} {a:Act} {Q:Exit->Act->World->Prop} {bm n:Nat} {f:Nat->Option ByteArray}
theorem Jn (w:World) (hg:o.guard=none) (m x:Operand) (hop:o.op=Op.lookup 36 m x true) (hS:Az bm n f w) (k:Nat) (hk:k<2000) (hm:a.eval m= .map (some bm)) (hx:a.eval x= .int .i64 k)
  (hK:wpList Tryz.prog ops Q rest (a.put o.dst (.tuple #[.agg #[.string ((f k).getD ⟨#[]⟩)],.bool (f k).isSome])) w):wpList Tryz.prog ops Q (o::rest) a w:=by
 obtain⟨D,hD,hM⟩:=hS;refine wpList_lookup_own_ok w hg m x 36 hop 3 147 NY Tryz.underlying36 CW (Up w) (.lit (.string [])) [] rfl bm n D hm hD _ _ hx (NZ k hk) ?_;intro v ps hv;obtain⟨s,rfl,hz⟩:=JP hv;have h1:=congrArg Prod.fst hz;simp only at h1;rw[hM.has k hk]
 cases hf:f k with
 |none=>
  rw[atKey_of_not_has (by rw[hM.has k hk,hf];rfl)]at h1;injection h1 with h2;injection h2 with h3;have:s=⟨#[]⟩:=KY (by rw[<-h3]);rw[hf]at hK;rw[this];exact hK
 |some t=>
  rw[hM.elem k t hk hf]at h1;injection h1 with h2;injection h2 with h3;have:s=t:=(KY h3).symm;rw[hf]at hK;rw[this];exact hK
theorem Q6 (w:World) (hg:o.guard=none) (m x:Operand) (hop:o.op=Op.call {callee:=Callee.builtin Builtin.delete,args:= #[m,x],argTypes:= #[36,3]}) (hS:Az bm n f w) (k:Nat) (hk:k<2000) (hm:a.eval m= .map (some bm)) (hx:a.eval x= .int .i64 k)
  (hK:∀w',Az bm n (put f k none) w'->Aa (fun b=>b=bm) w w'->wpList Tryz.prog ops Q rest (a.put o.dst (.tuple #[])) w'):wpList Tryz.prog ops Q (o::rest) a w:=by
 obtain⟨D,hD,hM⟩:=hS;refine wpList_delete_own w hg m x 36 3 hop 147 NY Tryz.underlying36 CW bm n D hm hD _ _ hx (NZ k hk) ?_;intro w' h1 h2;exact hK w' ⟨_,h1,hM.del k⟩ (Aa.of_grown h2.grown rfl)
end
def Pg.text (p:Pg) (pg:Nat->ByteArray) (k:Nat):ByteArray:=(p.chg k).getD (pg (Fa k (p.upper k)))
section
variable {bp bd bm n:Nat} {p:Pg} {s:St} {w:World}
theorem LR {p:Pg} {j:Nat} (hd:p.down=false) (hj:j<2000) (hu:p.used j=true):p.code j=0:=by
 rw[Pg.code_yes ⟨by omega,by omega,by rw[Int.toNat_natCast];exact hu⟩,hd];rfl
set_option maxHeartbeats 400000
theorem PC (h:Am bp bd bm n p w) (hD:Prg bd s w) (hd:p.down=false) (j:Nat) (hj:j<2000) (hu:p.used j=true):
  Calls Tryz.prog 167 #[.pointer (some ⟨bp,0,none⟩),.int .i64 j] w fun e w'=>e= .returned (.tuple #[.string (p.text s.pg j),.nilIface])/\Below w.heap.size w w':=by
 have HP:Hid (Am bp bd bm n p w):=h;have HD:Hid (Prg bd s w):=hD;have q0:=h.cells.cell 0 (by omega);rw[show BL p bd bm 0= .pointer (some ⟨bd,0,none⟩)from rfl]at q0;have q1:=h.cells.cell 4017 (by omega);rw[DV]at q1;have q2:=h.cells.cell (1+j) (by omega);rw[GH _ _ _ hj]at q2;have h1:(j:Int)<2000:=by omega
 clear h hD;go_enter Tryz.func167,Tryz.ntmps167;go_wp2_with fail;refine(GS HP.out.cells j).mono ?_;rintro _ wa ⟨E,rfl,hE,hw⟩;subst wa;rw[LR hd hj hu]at hE;obtain rfl:E= .nilIface:=hE
 cases hf:p.chg j with
 |some t=>
  have ht:t.size=1024:=by
   obtain⟨D,_,hM⟩:=HP.out.own;exact(hM.small j t hf).2
  go_wp2_with (refine Jn _ rfl _ _ rfl HP.out.own j hj rfl rfl ?_;rw[hf])
  refine(Db t _ (by omega)).mono ?_;rintro _ w1 ⟨rfl,hb⟩;have HB:Hid (Below w.heap.size w w1):=((Below.refl _ w).alloc (o:= .cells #[.string t] 147) (Nat.le_refl _)).trans (hb.mono (by rw[World.size_alloc];omega));clear hb;go_wp2;go_ret2;exact⟨by rw[Pg.text,hf];rfl,HB.out⟩
 |none=>
  go_wp2_with (refine Jn _ rfl _ _ rfl HP.out.own j hj rfl rfl ?_;rw[hf])
  have HK:Hid (∀wx,Below w.heap.size w wx->wx.cell? ⟨bp,0,none⟩=some (.pointer (some ⟨bd,0,none⟩))/\wx.cell? ⟨bp,1+j,none⟩=some (.bool (p.upper j))):=fun wx hx=>
   ⟨by rw[hx.cell (p:=⟨bp,0,none⟩) HP.out.lt];exact q0,by rw[hx.cell (p:=⟨bp,1+j,none⟩) HP.out.lt];exact q2⟩
  have HDx:Hid (∀wx,Below w.heap.size w wx->Prg bd s wx):=fun wx hx=>Prg.below HD.out hx;have HB0:Hid (Below w.heap.size w (w.alloc (.cells #[.string ⟨#[]⟩] 147)).drew):=((Below.refl _ w).alloc (o:= .cells #[.string ⟨#[]⟩] 147) (Nat.le_refl _)).drew;have hlt:=GT j hj (p.upper j)
  go_region_held3 (fun wx=>wx.cell? ⟨bp,0,none⟩=some (.pointer (some ⟨bd,0,none⟩))/\wx.cell? ⟨bp,1+j,none⟩=some (.bool (p.upper j))) (first|exact HK.out _ HB.out|exact HK.out _ HB0.out) (first|(go_at_call 105;refine(KA j hj _ _).mono ?_;rintro _ wy ⟨rfl,hwy⟩;subst wy)|(go_at_call 104;refine(IU (HDx.out _ HB0.out) _ hlt).mono ?_;rintro _ wy ⟨rfl,hb⟩;have HB:Hid (Below w.heap.size w wy):=HB0.out.trans (hb.mono HB0.out.size)))
  go_wp2;go_ret2;exact⟨by rw[Pg.text,hf];rfl,HB.out⟩
end
end
end Go.Proofs.YtihnldkgeelehaaGreatDoor
