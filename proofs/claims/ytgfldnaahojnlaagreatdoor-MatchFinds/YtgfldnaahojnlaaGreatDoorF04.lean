/- MatchFinds: part 4. -/
import Derived.Test.YtgfldnaahojnlaaGreatDoorF03
import Derived.Sort.Walk0
set_option maxRecDepth 100000
set_option maxHeartbeats 4000000
namespace Go.Proofs.YtgfldnaahojnlaaGreatDoor
section
open Go.RowKit
def Em (B:Nat) (v:Value) (ks:List Nat) (w:World):Prop:=w.ownsRow B 3 1 v ks.length (ks.map fun k=>Value.int .i64 (k:Nat))
def Ay (ks:List Nat):List Value:=ks.map fun k=>Value.int .i64 (k:Nat)
theorem Em.view {B:Nat} {v:Value} {ks:List Nat} {w:World} (h:Em B v ks w):An B v (Ay ks) w:=
 An.of_own (e:=3) (by unfold Ay;rw[List.length_map];exact h)
theorem Ai (ks:List Nat):(Ay ks).length=ks.length:=List.length_map _
theorem EB {ks:List Nat} {k:Nat} (hk:k<ks.length):(Ay ks)[k]'(by rw[Ai];exact hk)=Value.int .i64 (ks[k]:Nat):=List.getElem_map _
def Eu:List Nat->List UInt8
 | []=>[]
 |k::r=>UInt8.ofNat (k / 256)::UInt8.ofNat (k % 256)::Eu r
theorem DP:∀ks,(Eu ks).length=2 * ks.length
 | []=>rfl
 |k::r=>by rw[Eu,List.length_cons,List.length_cons,DP r,List.length_cons];omega
theorem IS:∀a b,Eu (a++b)=Eu a++Eu b
 | [],_=>rfl
 |k::r,b=>by rw[List.cons_append,Eu,Eu,IS r b];rfl
def GF (ks:List Nat):ByteArray:=⟨(Eu ks).toArray⟩
def u8s (l:List UInt8):List Value:=l.map fun b=>Value.int .u8 (b.toNat:Nat)
def Xe (B:Nat) (v:Value) (l:List UInt8) (w:World):Prop:=w.ownsRow B 5 1 v l.length (u8s l)
theorem XY:∃i0:TypeInfo,Tryz.prog.info? 5=some i0/\i0.zero=some (.int .u8 0)/\i0.size=1/\i0.bytes=1:=by
 have h:=UP
 cases hq:Tryz.prog.info? 5 with
 |none=>rw[hq]at h;cases h
 |some i=>
  rw[hq]at h;simp at h;exact⟨i,rfl,h.1,h.2.1,h.2.2⟩
theorem NR (w:World) (x y:Value) (t:TypeId):∀j u,([x,y]:List Value)[j]? =some u->(w.alloc (.cells #[x,y] t)).cell? ((⟨w.heap.size,0,none⟩:Addr).add j)=some u:=by
 intro j u hu;have hn:(w.alloc (.cells #[x,y] t)).heap[w.heap.size]? =some (.cells #[x,y] t):=heap_alloc_new w _
 match j with
 |0=>simp at hu;subst hu;rw[AG];simp only[World.cell?,hn];rfl
 |1=>simp at hu;subst hu;rw[AG];simp only[World.cell?,hn];rfl
 |j+2=>simp at hu
theorem IA (w:World) (x:Value) (t:TypeId):∀j u,([x]:List Value)[j]? =some u->(w.alloc (.cells #[x] t)).cell? ((⟨w.heap.size,0,none⟩:Addr).add j)=some u:=by
 intro j u hu;have hn:(w.alloc (.cells #[x] t)).heap[w.heap.size]? =some (.cells #[x] t):=heap_alloc_new w _
 cases j with
 |zero=>simp at hu;subst hu;rw[AG];simp only[World.cell?,hn];rfl
 |succ j=>simp at hu
theorem Qk {B:Nat} {v:Value} {l:List UInt8} {w:World} (h:Xe B v l w) (hl:l≠[]):(convert 166 9 v).run Tryz.prog w= .ok (.string ⟨l.toArray⟩) w:=by
 have hp:0<l.length:=List.length_pos_iff.2 hl;obtain⟨g,cap,rfl,h1,h2⟩:=World.ownsRow.form h hp
 have:=run_convert_bytes_back (P:=Tryz.prog) w 166 9 5 ⟨g,0,none⟩ cap l Tryz.underlying166 Tryz.underlying5 Tryz.underlying9 (fun j hj=>by
  rw[AG,Nat.zero_add];have:=World.ownsRow.cellAt h j (by omega);rw[this];unfold u8s;rw[List.getElem?_map,List.getElem?_eq_getElem hj];rfl)
 exact this
theorem LR {B:Nat} {v:Value} {ks:List Nat} (w:World) (hV:An B v (Ay ks) w) (hk:∀k∈ks,k<2000) (hn:ks.length<=1000) (h0:ks≠[]):
  Calls Tryz.prog 186 #[v] w fun e w'=>e= .returned (.string (GF ks))/\Below w.heap.size w w':=by
 have hlen:=hV.len Tryz.underlying95;rw[Ai]at hlen;have HV:Hid _:=hV;have HK:Hid _:=hk;have H0:Hid _:=h0;clear hV hk h0;go_enter Tryz.func186,Tryz.ntmps186;go_wp2_with fail;go_loopw [3,8] (fun l i wr=>∃k:Nat,k<=ks.length/\i= .int .i64 k/\Hid (Xe w.heap.size l (Eu (ks.take k)) wr)/\Hid (Below w.heap.size w wr)) (fun _ i _=>ks.length-(intOf i).toNat)
 case atStart=>exact⟨0,Nat.zero_le _,rfl,World.ownsRow_nil _ _ _ _,Below.refl _ _⟩
 case round=>
  obtain⟨k,hk,rfl,HR,HB⟩:=hrel
  by_cases hlt:k<ks.length
  ·have h1:(k:Int)<(ks.length:Int):=by omega
   obtain⟨b0,o0,k1,k2,k3,k4⟩:=(HV.out.below HB.out).at (i:=k) (by rw[Ai];exact hlt);have hix:=k4 Tryz.underlying95 Dh Ex (k:Int) rfl;rw[EB hlt]at k3;have hsk:=HK.out _ (List.getElem_mem hlt)
   have HJ:Hid (Eu (ks.take (k+1))=Eu (ks.take k)++[UInt8.ofNat (ks[k] / 256),UInt8.ofNat (ks[k] % 256)]):=by
    show _=_;rw[List.take_succ_eq_append_getElem hlt,IS];rfl
   have hll:(Eu (ks.take k)).length=2 * k:=by rw[DP,List.length_take];omega
   obtain⟨x,hx⟩:∃x,ks[k]=x:=⟨_,rfl⟩;rw[hx]at k3 hsk HJ;obtain⟨L,hL⟩:∃L,Eu (ks.take k)=L:=⟨_,rfl⟩;rw[hL]at HR HJ hll;clear hx hL k1 k2 k4;obtain⟨i0,hi,hz0,hz1,hz2⟩:=XY
   have HW:Hid ([Value.int .u8 ((x:Int) / 256),.int .u8 ((x:Int) % 256)]=u8s [UInt8.ofNat (x / 256),UInt8.ofNat (x % 256)]):=by
    show _=_;unfold u8s;have e1:(UInt8.ofNat (x / 256)).toNat=x / 256:=Hr (by omega);have e2:(UInt8.ofNat (x % 256)).toNat=x % 256:=by rw[UInt8.toNat_ofNat'];omega
    simp only[List.map_cons,List.map_nil,e1,e2];congr 1
   have HO2:Hid _:=World.ownsRow.alloc HR.out (.cells #[.int .u8 ((x:Int) / 256),.int .u8 ((x:Int) % 256)] 5);have hx1:((x:Int) / 256) % 256=(x:Int) / 256:=by omega
   go_wp2_with (at_builtin;refine wpList_append_own _ rfl _ _ 166 rfl w.heap.size 5 i0 (.int .u8 0) 1 1 Tryz.underlying166 hi hz0 hz1 hz2 rfl (by decide) _ _ _ rfl HO2.out ⟨wr.heap.size,0,none⟩ 2 2 [.int .u8 ((x:Int) / 256),.int .u8 ((x:Int) % 256)] rfl rfl (NR wr _ _ 5) (by intro u hu;simp at hu;rcases hu with rfl|rfl<;>rfl) (by rw[hll];simp only[maxLen];omega) (by rw[hll];omega) (by have:=HB.out.size;simp;omega) ?_;intro v' w' hO hG hN)
   refine⟨⟨k+1,by omega,by go_num,?_,?_⟩,by simp[intOf];omega⟩
   ·show Xe _ _ _ _
    rw[HJ.out];show World.ownsRow _ _ _ _ _ _ _;rw[List.length_append,show u8s (L++[UInt8.ofNat (x / 256),UInt8.ofNat (x % 256)])=u8s L++u8s [UInt8.ofNat (x / 256),UInt8.ofNat (x % 256)]from List.map_append,<-HW.out];exact hO
   ·exact(HB.out.alloc HB.out.size _).grown hG (by have:=HB.out.size;simp;omega) (fun k e=>(World.ownsRow.lt HR.out k e).1)
  ·have h1:¬(k:Int)<(ks.length:Int):=by omega
   obtain rfl:k=ks.length:=by omega
   rw[List.take_length]at HR;have hcv:=Qk HR.out (by intro e;have:=DP ks;rw[e]at this;exact H0.out (List.length_eq_zero_iff.1 (by have h9:0=2 * ks.length:=this;omega)));go_wp2;go_ret;exact⟨rfl,HB.out⟩
theorem T3 {R:ByteArray} {k:Nat} {r:List Nat} {z:Nat} (h:R.data.toList=Eu (k::r)++List.replicate z 0) (hk:k<2000):∃h0:1<R.size,(R[0]'(by omega)).toNat=k / 256/\(R[1]).toNat=k % 256/\(R.extract 2 R.size).data.toList=Eu r++List.replicate z 0/\(R.extract 2 R.size).size+2=R.size:=by
 have hl:=congrArg List.length h;rw[Array.length_toList,List.length_append,DP,List.length_replicate,List.length_cons]at hl;have hs:R.size=2 * (r.length+1)+z:=hl;have d:R.data.toList.drop 0=UInt8.ofNat (k / 256)::UInt8.ofNat (k % 256)::(Eu r++List.replicate z 0):=by rw[List.drop_zero,h];rfl
 refine⟨by omega,?_,?_,?_,?_⟩
 ·have:=CC (t:=R) (a:=0) (b:=0) d rfl (by omega)
  have e:R[0]'(by omega)=UInt8.ofNat (k / 256):=this;rw[e];exact Hr (by omega)
 ·have:=CC (t:=R) (a:=0) (b:=1) d rfl (by omega)
  have e:R[1]'(by omega)=UInt8.ofNat (k % 256):=this;rw[e,UInt8.toNat_ofNat'];omega
 ·rw[ByteArray.data_extract,Array.toList_extract,List.extract_eq_take_drop,h]
  show((Eu r++List.replicate z 0).take (R.size-2))=_;rw[List.take_of_length_le (by rw[List.length_append,DP,List.length_replicate];omega)]
 ·rw[ByteArray.size_extract];omega
theorem Tz {R:ByteArray} {z:Nat} (h:R.data.toList=List.replicate z 0) (h1:1<R.size):(R[0]'(by omega)).toNat=0/\(R[1]).toNat=0:=by
 have hl:=congrArg List.length h;rw[Array.length_toList,List.length_replicate]at hl;have hs:R.size=z:=hl;have d:R.data.toList.drop 0=List.replicate z 0:=by rw[List.drop_zero,h]
 constructor
 ·have e:R[0]'(by omega)=0:=CC (t:=R) (a:=0) (b:=0) d (by rw[List.getElem?_replicate,if_pos (by omega)]) (by omega)
  rw[e];rfl
 ·have e:R[1]'(by omega)=0:=CC (t:=R) (a:=0) (b:=1) d (by rw[List.getElem?_replicate,if_pos (by omega)]) (by omega)
  rw[e];rfl
theorem No (t:ByteArray) (a:Nat) (h:a<=t.size) (w:World):(Instr.slice 9 (.string t) (some (.int .i64 (a:Nat))) none none).run Tryz.prog w= .ok (.string (t.extract a t.size)) w:=by
 simp[Instr.slice,Instr.sliceBounds,Instr.sliceBound,asIntOf,run_underlying Tryz.underlying9,go_sem];intro hc;omega
theorem AZ {B:Nat} {w w':World} (h:Below B w w') (k:Nat):Below B w (w'.drewN k):=⟨h.os,h.tape,h.output,h.size,h.block⟩
theorem Lu {w:World} {base:Nat} {e:TypeId} {size:Nat} {v:Value} {n:Nat} {xs:List Value} (h:w.ownsRow base e size v n xs) (k:Nat):(w.drewN k).ownsRow base e size v n xs:=by
 have hh:(w.drewN k).heap=w.heap:=by simp
 unfold World.ownsRow at h ⊢;rw[hh];exact h
def VR:Value->Nat
 | .string s=>s.size
 |_=>0
theorem N3 {s:ByteArray} {ks:List Nat} {z:Nat} (w:World) (hs:s.data.toList=Eu ks++List.replicate z 0) (hk:∀k∈ks,0<k/\k<2000) (hm:s.size<=4096):
  Calls Tryz.prog 167 #[.string s] w fun e w'=>∃v,e= .returned v/\Em w.heap.size v ks w'/\Below w.heap.size w w':=by
 have HS:Hid _:=hs;have HK:Hid _:=hk;clear hs hk;go_enter Tryz.func167,Tryz.ntmps167;go_wp2_with fail;go_loopw [0,2] (fun t l wr=>∃(j:Nat) (R:ByteArray),j<=ks.length/\R.size<=4096/\t= .string R/\Hid (R.data.toList=Eu (ks.drop j)++List.replicate z 0)/\Hid (Em w.heap.size l (ks.take j) wr)/\Hid (Below w.heap.size w wr)) (fun t _ _=>VR t)
 case atStart=>exact⟨0,s,Nat.zero_le _,hm,rfl,HS,World.ownsRow_nil _ _ _ _,Below.refl _ _⟩
 case round=>
  obtain⟨j,R,hj,hR,rfl,HD,HR,HB⟩:=hrel
  by_cases hlt:j<ks.length
  ·have hd:=HD.out
   rw[List.drop_eq_getElem_cons hlt]at hd;have hkk:=HK.out _ (List.getElem_mem hlt);obtain⟨g1,g2,g3,g4,g5⟩:=T3 hd hkk.2;have HT:Hid (ks.take (j+1)=ks.take j++[ks[j]]):=List.take_succ_eq_append_getElem hlt;have hll:(ks.take j).length=j:=by rw[List.length_take];omega
   have h1:(1:Int)<(R.size:Int):=by omega
   have h0:(0:Int)<(R.size:Int):=by omega
   have hkl:j<=4096:=by
    have:=congrArg List.length HD.out;rw[Array.length_toList,List.length_append,DP,List.length_drop]at this;have h7:R.size=2 * (ks.length-j)+(List.replicate z (0:UInt8)).length:=this;have h8:=congrArg List.length HS.out;rw[Array.length_toList,List.length_append,DP]at h8;have h9:s.size=2 * ks.length+(List.replicate z (0:UInt8)).length:=h8;omega
   obtain⟨p,q,hp,hq,hpq⟩:∃p q:Nat,ks[j] / 256=p/\ks[j] % 256=q/\ks[j]=p * 256+q:=⟨_,_,rfl,rfl,by omega⟩;rw[hp]at g2;rw[hq]at g3;have hp8:p<8:=by omega
   have hq8:q<256:=by omega
   have HPQ:Hid (ks[j]=p * 256+q):=hpq;have hnz:¬(p * 256+q:Int)=0:=by have:=hkk.1;omega
   have b0:∀w,(Instr.index 9 (.string R) (.int .i64 0)).run Tryz.prog w= .ok (.int .u8 (p:Nat)) w:=fun w=>Ey R 0 (by omega) p g2 w;have b1:∀w,(Instr.index 9 (.string R) (.int .i64 1)).run Tryz.prog w= .ok (.int .u8 (q:Nat)) w:=fun w=>Ey R 1 g1 q g3 w;have HD2:Hid _:=g4;have HD3:Hid _:=g5
   have HOR:Hid (bits BinOp.or IntKind.i64 ((p:Int) * 256) (q:Int)=(p:Int) * 256+(q:Int)):=by
    show _=_;rw[bits_join IntKind.i64 63 (by decide) By 8 _ _ (by omega) (by omega) (by omega) (by omega) (by omega) (by omega)]
   clear hd g2 g3 g4 g5 hp hq hpq;go_wp2_with fail;go_quiet (fail);rw[HOR.out];have HR:Hid (Em w.heap.size u2 (ks.take j) (wr.drewN nq)):=Lu HR.out nq;have HB:Hid (Below w.heap.size w (wr.drewN nq)):=AZ HB.out nq;obtain⟨wq,hwq⟩:∃wq,wr.drewN nq=wq:=⟨_,rfl⟩;rw[hwq]at HR HB;rw[hwq];clear hwq;obtain⟨i0,hi,hz0,hz1,hz2⟩:=Ob
   have HX:Hid (Value.int .i64 ((p:Int) * 256+(q:Int))=Value.int .i64 ((ks[j]:Nat):Int)):=by
    show _=_;rw[HPQ.out];congr 1
   have HO2:Hid _:=World.ownsRow.alloc HR.out (.cells #[.int .i64 ((p:Int) * 256+(q:Int))] 3);have h2:(2:Int)<=(R.size:Int):=by omega
   have hs2:∀wx,(Instr.slice 9 (.string R) (some (.int .i64 2)) none none).run Tryz.prog wx= .ok (.string (R.extract 2 R.size)) wx:=fun wx=>No R 2 (by omega) wx
   go_wp2_with (at_builtin;refine wpList_append_own _ rfl _ _ 95 rfl w.heap.size 3 i0 (.int .i64 0) 1 8 Tryz.underlying95 hi hz0 hz1 hz2 rfl (by decide) _ _ _ rfl HO2.out ⟨wq.heap.size,0,none⟩ 1 1 [.int .i64 ((p:Int) * 256+(q:Int))] rfl rfl (IA wq _ 3) (by intro u hu;simp at hu;subst hu;rfl) (by rw[hll];simp only[maxLen];omega) (by rw[hll];omega) (by have:=HB.out.size;simp;omega) ?_;intro v' w' hO hG hN)
   refine⟨⟨j+1,_,by omega,?_,rfl,HD2,?_,?_⟩,?_⟩
   ·have:=HD3.out;omega
   ·show Em _ _ _ _
    rw[HT.out];show World.ownsRow _ _ _ _ _ _ _;rw[List.length_append,List.map_append,List.map_singleton,<-HX.out];exact hO
   ·exact(HB.out.alloc HB.out.size _).grown hG (by have:=HB.out.size;simp;omega) (fun k e=>(World.ownsRow.lt HR.out k e).1)
   ·have:=HD3.out
    show(R.extract 2 R.size).size<R.size;omega
  ·obtain rfl:j=ks.length:=by omega
   have hd:=HD.out;rw[List.drop_length,show Eu ([]:List Nat)=[]from rfl,List.nil_append]at hd;rw[List.take_length]at HR
   by_cases h1:1<R.size
   ·obtain⟨g2,g3⟩:=Tz hd h1
    have b0:∀w,(Instr.index 9 (.string R) (.int .i64 0)).run Tryz.prog w= .ok (.int .u8 0) w:=fun w=>Ey R 0 (by omega) 0 g2 w;have b1:∀w,(Instr.index 9 (.string R) (.int .i64 1)).run Tryz.prog w= .ok (.int .u8 0) w:=fun w=>Ey R 1 h1 0 g3 w;have h2:(1:Int)<(R.size:Int):=by omega
    have hor:bits BinOp.or IntKind.i64 0 0=0:=by decide
    clear hd g2 g3;go_wp2_with fail;go_quiet (fail);have HR:Hid (Em w.heap.size u2 ks (wr.drewN nq)):=Lu HR.out nq;have HB:Hid (Below w.heap.size w (wr.drewN nq)):=AZ HB.out nq;go_wp2;go_ret;exact⟨_,rfl,HR.out,HB.out⟩
   ·have h2:¬(1:Int)<(R.size:Int):=by omega
    clear hd;go_wp2;go_ret;exact⟨_,rfl,HR.out,HB.out⟩
end
section
open Go.RowKit Go.Maps
structure Tt (bt bp r:Nat) (w:World):Prop where
 cp:w.cell? ⟨bt,0,none⟩=some (.pointer (some ⟨bp,0,none⟩))
 cr:w.cell? ⟨bt,1,none⟩=some (.int .i64 r)
 lt8:r<8
section
variable {bt bp r:Nat} {w wx:World}
theorem Tt.lt (h:Tt bt bp r w):bt<w.heap.size:=World.block_lt_of_cell? w _ h.cp
theorem Tt.below (h:Tt bt bp r w) (hb:Below w.heap.size w wx):Tt bt bp r wx:=⟨(hb.cell (p:=⟨bt,0,none⟩) h.lt).trans h.cp,(hb.cell (p:=⟨bt,1,none⟩) h.lt).trans h.cr,h.lt8⟩
theorem Tt.only {S:Nat->Prop} (h:Tt bt bp r w) (ho:Aa S w wx) (hs:¬S bt):Tt bt bp r wx:=⟨(ho.cell h.lt hs 0).trans h.cp,(ho.cell h.lt hs 1).trans h.cr,h.lt8⟩
theorem Tt.drew (h:Tt bt bp r w):Tt bt bp r w.drew:=⟨h.cp,h.cr,h.lt8⟩
end
def Aj (ps:List Pr):ByteArray:=⟨(Dg ps).toArray⟩
theorem AY (ps:List Pr):(Aj ps).size=szL ps:=by
 show(Dg ps).toArray.size=_;rw[List.size_toArray,Fu]
theorem Dq.front {t:ByteArray} {ps:List Pr} {z:Nat} (h:Dq t ps z):t.extract 0 (szL ps)=Aj ps:=by
 apply ByteArray.ext;apply Array.toList_inj.1;rw[ByteArray.data_extract,Array.toList_extract,List.extract_eq_take_drop,h.data];show(Dg ps++List.replicate z 0).take (szL ps-0)=(Dg ps).toArray.toList;rw[Nat.sub_zero,<-Fu,List.take_left]
theorem FB {ps:List Pr} (hok:∀x∈ps,x.Ok) (hs:szL ps<=4096):Dq (Aj ps) ps 0:=⟨by show(Dg ps).toArray.toList=_;simp,hok,by rw[AY];exact hs⟩
section
variable {bt bp bd bm N r:Nat} {s:St} {up:Nat->Bool} {cm:Int} {V:Pst} {w:World}
theorem Lj (t:ByteArray) (a:Nat) (h:a<=t.size) (w:World):(Instr.slice 9 (.string t) none (some (.int .i64 (a:Nat))) none).run Tryz.prog w= .ok (.string (t.extract 0 a)) w:=by
 simp[Instr.slice,Instr.sliceBounds,Instr.sliceBound,asIntOf,run_underlying Tryz.underlying9,go_sem];intro hc;omega
theorem N0 (hT:Tt bt bp r w) (h:Tw bp bd bm N s up cm V w) (k:Nat) (hk:k<2000) (hu:V.used k=true) {ps:List Pr} {z:Nat} (hL:Dq (V.tx k) ps z):
  Calls Tryz.prog 126 #[.pointer (some ⟨bt,0,none⟩),.int .i64 k] w fun e w'=>e= .returned (.tuple #[.string (Aj ps),.nilIface])/\Below w.heap.size w w':=by
 have q0:=hT.cp;have HW:Hid _:=h;have HL:Hid _:=hL;have hfr:=Lj (V.tx k) (szL ps) (by rw[hL.size];omega);rw[hL.front]at hfr;clear h hL hT;go_enter Tryz.func126,Tryz.ntmps126;go_wp2_with fail;refine(Jm HW.out k hk hu).mono ?_;rintro _ w1 ⟨rfl,hb1⟩;have HB1:Hid _:=hb1;clear hb1;go_wp2_with fail;refine(PH HL.out w1).mono ?_;rintro _ w2 ⟨rfl,hb2⟩;have HB2:Hid (Below w.heap.size w w2):=HB1.out.trans (hb2.mono HB1.out.size);clear hb2;go_wp2;go_ret2;exact⟨rfl,HB2.out⟩
end
def Ha (t:ByteArray) (j:Nat):Nat:=(t.data.toList.getD j 0).toNat
def pad (t:ByteArray):ByteArray:=⟨(Cy (Ha t)).toArray⟩
theorem JR (t:ByteArray):(pad t).size=1024:=by
 show(Cy (Ha t)).toArray.size=1024;rw[List.size_toArray,DY]
theorem NL (t:ByteArray) (h:t.size<=1024):(pad t).data.toList=t.data.toList++List.replicate (1024-t.size) 0:=by
 have e0:(pad t).data.toList=Cy (Ha t):=by unfold pad;simp only
 rw[e0];apply List.ext_getElem?;intro j;have hl:t.data.toList.length=t.size:=Array.length_toList
 by_cases hj:j<1024
 ·have e1:(Cy (Ha t))[j]? =some (t.data.toList.getD j 0):=by
   have:=MK (Ha t) hj;rw[List.getD_eq_getElem?_getD]at this;have hb:j<(Cy (Ha t)).length:=by rw[DY];exact hj
   rw[List.getElem?_eq_getElem hb]at this ⊢;have h9:(Cy (Ha t))[j]=UInt8.ofNat (Ha t j):=this;rw[h9];unfold Ha;rw[UInt8.ofNat_toNat]
  rw[e1,List.getElem?_append];split
  ·rename_i e
   rw[List.getD_eq_getElem?_getD,List.getElem?_eq_getElem e];rfl
  ·rename_i e
   rw[List.getElem?_replicate,if_pos (by omega),List.getD_eq_getElem?_getD,List.getElem?_eq_none (by omega)];rfl
 ·rw[List.getElem?_eq_none (by rw[DY];omega),List.getElem?_eq_none (by rw[List.length_append,List.length_replicate];omega)]
theorem Uf {ps:List Pr} (hok:∀x∈ps,x.Ok) (hs:szL ps<=1024):Dq (pad (Aj ps)) ps (1024-szL ps):=
 ⟨by rw[NL _ (by rw[AY];exact hs),AY];show(Dg ps).toArray.toList++_=_;simp,hok,by rw[JR];omega⟩
theorem Iy.copied {B:Nat} {w:World} (h:Iy B (fun _=>0) w) (t:ByteArray) (ht:t.size<=1024):Iy B (Ha t) (w.setCells B 0 (Lib.byteCells t.data.toList)):=by
 have hl:t.data.toList.length=t.size:=Array.length_toList;have hb:(Lib.byteCells t.data.toList).length=t.size:=by rw[Lib.byteCells_length,hl]
 refine⟨fun j hj=> ?_,fun j=>by rw[World.frozen?_setCells];exact h.free j,fun j=>UInt8.toNat_lt _⟩
 by_cases e:j<t.size
 ·have:=World.cell?_setCells_in B (Lib.byteCells t.data.toList) 0 w (fun i hi=>by rw[Nat.zero_add,h.cell i (by omega)];rfl) j (by omega)
  rw[Nat.zero_add]at this;rw[this];unfold Lib.byteCells Ha;rw[List.getElem_map,List.getD_eq_getElem?_getD,List.getElem?_eq_getElem (by omega)];rfl
 ·rw[World.cell?_setCells_out B _ 0 w ⟨B,j,none⟩ (fun _ _=> .inr (by show 0+_<=j;omega)),h.cell j hj]
  unfold Ha;rw[List.getD_eq_getElem?_getD,List.getElem?_eq_none (by omega)];rfl
section
variable {bt bp bd bm N r:Nat} {s:St} {up:Nat->Bool} {cm:Int} {V:Pst} {w:World}
theorem Dw {a b:ByteArray} (h:(a.toList == b.toList)=true):a=b:=by
 have h2:a.toList=b.toList:=by simpa using h
 rw[ByteArray.toList_eq,ByteArray.toList_eq]at h2;exact ByteArray.ext (Array.toList_inj.1 h2)
theorem Pst.write_same (V:Pst) (k:Nat):V.write k (V.tx k)=V:=by
 cases V
 unfold Pst.write;congr
 funext i
 by_cases e:i=k
 ·rw[if_pos e,e]
 ·rw[if_neg e]
set_option maxHeartbeats 1000000
theorem Rg (hT:Tt bt bp r w) (h:Tw bp bd bm N s up cm V w) (hN:N<1000000) (hne:bt≠bp/\bt≠bm) (k:Nat) (hk:k<2000) (hu:V.used k=true) (t:ByteArray) (ht:t.size<=1024):
  Calls Tryz.prog 188 #[.pointer (some ⟨bt,0,none⟩),.int .i64 k,.string t] w fun e w'=>e= .returned .nilIface/\Tw bp bd bm (N+1) s up cm (V.write k (pad t)) w'/\Aa (fun b=>b=bp\/b=bm) w w':=by
 have h0:=h.lt;obtain⟨w1,hmk,hb1,hr1⟩:=Si w;have hcp:=Mg (P:=Tryz.prog) w1 166 9 3 5 w.heap.size 0 1024 1024 t Tryz.underlying166 (by kernel_rfl) ht (fun j hj=>by rw[Nat.zero_add,hr1.cell j (by omega)];rfl) (fun j _=>by rw[Nat.zero_add];exact hr1.free j);have HR:Hid (Iy w.heap.size (Ha t) (w1.setCells w.heap.size 0 (Lib.byteCells t.data.toList))):=hr1.copied t ht;have HB:Hid (Below w.heap.size w (w1.setCells w.heap.size 0 (Lib.byteCells t.data.toList))):=Below.setCells' (Nat.le_refl _) _ _ _ hb1;obtain⟨w2,hw2⟩:∃w2,w1.setCells w.heap.size 0 (Lib.byteCells t.data.toList)=w2:=⟨_,rfl⟩;rw[hw2]at hcp HR HB;have HT:Hid (Tt bt bp r w2):=hT.below HB.out;have HW:Hid (Tw bp bd bm N s up cm V w2):=h.below HB.out;have q0:=HT.out.cp;clear hw2 hr1 hb1 hT h;go_enter Tryz.func188,Tryz.ntmps188;go_wp2_with fail;refine(Jm HW.out k hk hu).mono ?_;rintro _ w3 ⟨rfl,hb3⟩;have HB3:Hid (Below w.heap.size w w3):=HB.out.trans (hb3.mono HB.out.size);have HT3:Hid (Tt bt bp r w3):=HT.out.below hb3;have HW3:Hid (Tw bp bd bm N s up cm V w3):=HW.out.below hb3;have HR3:Hid (Iy w.heap.size (Ha t) w3):=HR.out.block (hb3.block _ HR.out.lt);have htx:=HR3.out.text;have HTX:Hid (pad t=⟨(Cy (Ha t)).toArray⟩):=rfl;rw[<-HTX.out]at htx;have q3:=HT3.out.cp;clear hb3 HT HW HR q0 HTX
 cases he:((V.tx k).toList == (pad t).toList)
 ·have lts:=HW3.out.lt
  have HBT:Hid (bp<w.heap.size/\bm<w.heap.size):=⟨h0.1,h0.2.1⟩;go_wp2_with fail;have HW4:Hid (Tw bp bd bm N s up cm V w3.drew):=HW3.out.drew;have S0:Hid (w3.drew.cell? ⟨bt,0,none⟩=some (.pointer (some ⟨bp,0,none⟩))/\(convert 166 9 (.slice (some ⟨w.heap.size,0,none⟩) 1024 1024)).run Tryz.prog w3.drew= .ok (.string (pad t)) w3.drew):=⟨HT3.out.drew.cp,(HR3.out.block (w':=w3.drew) rfl).text⟩;clear htx q3
  go_region_held3 (fun wx=>wx.cell? ⟨bt,0,none⟩=some (.pointer (some ⟨bp,0,none⟩))/\(convert 166 9 (.slice (some ⟨w.heap.size,0,none⟩) 1024 1024)).run Tryz.prog wx= .ok (.string (pad t)) wx) (first|exact S0.out|exact S1.out)
   (first|(go_at_call 233;refine(Ts HW4.out hN k hk hu (pad t) (JR t)).mono ?_;rintro _ w5 ⟨rfl,hW5,hO5⟩;have HO5:Hid _:=hO5;have HW5:Hid _:=hW5;have S1:Hid (w5.cell? ⟨bt,0,none⟩=some (.pointer (some ⟨bp,0,none⟩))/\(convert 166 9 (.slice (some ⟨w.heap.size,0,none⟩) 1024 1024)).run Tryz.prog w5= .ok (.string (pad t)) w5):=⟨(HT3.out.drew.only hO5 (fun e=>by rcases e with e|e;exact hne.1 e;exact hne.2 e)).cp,((HR3.out.block (w':=w3.drew) rfl).block (hO5.block _ HR3.out.lt (fun e=>by have:=HBT.out;omega))).text⟩;clear hO5 hW5))
  go_wp2;go_ret;exact⟨rfl,HW5.out,(Aa.of_below (S:=fun b=>b=bp\/b=bm) HB3.out.drew).trans HO5.out (fun _ e=> .inl e)⟩
 ·have HE:Hid (V.tx k=pad t):=by
   show _=_;exact Dw he
  go_wp2;go_ret;refine⟨rfl,?_,Aa.of_below HB3.out⟩;rw[<-HE.out,Pst.write_same];exact HW3.out.mono (Nat.le_succ _)
end
structure Tr where
 top:Nat
 ks:List Nat
 Ls:List (List Pr)
def Tr.all (T:Tr):List Pr:=T.Ls.flatten
structure BW (Ls:List (List Pr)):Prop where
 ne:∀L∈Ls,L≠[]
 fit:∀L∈Ls,szL L<=1024
 ok:∀L∈Ls,∀x∈L,x.Ok
 adj:∀i (hi:i+1<Ls.length),1024<szL (Ls[i]'(by omega))+szL Ls[i+1]
 sum:szL Ls.flatten<=30000
 sorted:Ls.flatten.Pairwise (fun a b=>bl a.k b.k=true)
structure D4 (V:Pst) (r:Nat) (T:Tr):Prop where
 len:T.ks.length=T.Ls.length
 ok:BW T.Ls
 rn:V.rn r=(szL T.all:Nat)
 rp:V.rp r=((if T.top=0 then T.ks.headD 0 else T.top:Nat):Int)
 top0:T.top=0↔T.Ls.length<=1
 ltop:T.top≠0->T.top<2000/\V.used T.top=true/\V.tx T.top=pad (GF T.ks)/\T.top∉T.ks
 low:∀k∈T.ks,0<k/\k<2000/\V.used k=true
 page:∀i (hi:i<T.ks.length) (hl:i<T.Ls.length),V.tx T.ks[i]=pad (Aj T.Ls[i])
 nodup:T.ks.Nodup
section
variable {Ls:List (List Pr)}
theorem MR:∀(Ls:List (List Pr)),(∀i (hi:i+1<Ls.length),1024<szL (Ls[i]'(by omega))+szL Ls[i+1])->1025 * (Ls.length / 2)<=szL Ls.flatten
 | [],_=>by simp
 | [_],_=>by simp
 |A::B::r,h=>by
  have h0:=h 0 (by simp)
  have ih:=MR r (fun i hi=>by
   have:=h (i+2) (by simp;omega);simpa using this)
  rw[List.flatten_cons,List.flatten_cons,Am,Am];simp only[List.getElem_cons_zero,List.getElem_cons_succ]at h0;simp only[List.length_cons];omega
theorem BW.len (h:BW Ls):Ls.length<=59:=by
 have h1:=MR Ls h.adj;have h2:=h.sum;omega
theorem BW.many (h:BW Ls) (hl:2<=Ls.length):1024<szL Ls.flatten:=by
 have h1:=MR Ls h.adj;omega
theorem BW.few (h:BW Ls) (hl:Ls.length<=1):szL Ls.flatten<=1024:=by
 match Ls,hl with
 | [],_=>exact Nat.zero_le _
 | [L],_=>rw[List.flatten_cons,List.flatten_nil,List.append_nil];exact h.fit L (by simp)
 |A::B::r,hl=>simp at hl
end
section
variable {bt bp bd bm N r:Nat} {s:St} {up:Nat->Bool} {cm:Int} {V:Pst} {w:World}
theorem VQ (hT:Tt bt bp r w) (h:Tw bp bd bm N s up cm V w):
  Calls Tryz.prog 137 #[.pointer (some ⟨bt,0,none⟩)] w fun e w'=>e= .returned (.int .i64 (V.rn r))/\Below w.heap.size w w':=by
 have H8:Hid _:=hT.lt8;have HT:Hid (Tt bt bp r w.drew):=hT.drew;have HW:Hid _:=h.drew;have HB0:Hid (Below w.heap.size w w.drew):=(Below.refl _ w).drew;clear hT h;go_enter Tryz.func137,Tryz.ntmps137;go_wp2_with fail
 go_region_held3 (fun wx=>wx.cell? ⟨bt,0,none⟩=some (.pointer (some ⟨bp,0,none⟩))/\wx.cell? ⟨bt,1,none⟩=some (.int .i64 r)) (first|exact⟨HT.out.cp,HT.out.cr⟩|exact⟨HT1.out.cp,HT1.out.cr⟩)
  (first|(go_at_call 46;refine(LV HW.out r H8.out).mono ?_;rintro _ w1 ⟨rfl,hb1⟩;have HT1:Hid _:=HT.out.below hb1;have HB1:Hid (Below w.heap.size w w1):=HB0.out.trans (hb1.mono HB0.out.size);clear hb1))
 go_wp2;go_ret;exact⟨rfl,HB1.out⟩
theorem DD {P:Program} {fn:Func} {p q:Tmp} {t:TypeId} {v u:Value} (h:fn.results= #[.cell p t,.tmp q]) (tmps:Array Value) (w:World) (a:Addr) (hp:tmps.getD p undef= .pointer (some a)) (hq:tmps.getD q undef=u) (hl:(loadVar t a).run P w= .ok v w):
  (results fn tmps).run P w= .ok (.tuple #[v,u]) w:=by
 have e0:tmps[p]?.getD undef= .pointer (some a):=by simpa [Array.getD_eq_getD_getElem?]using hp
 have e1:tmps[q]?.getD undef=u:=by simpa [Array.getD_eq_getD_getElem?]using hq
 simp[results,h,e0,e1,asAddr,hl]
theorem Pz {w:World} {B:Nat} {a b:Value} (h0:w.cell? ⟨B,0,none⟩=some a) (h1:w.cell? ⟨B,1,none⟩=some b):(loadVar 168 ⟨B,0,none⟩).run Tryz.prog w= .ok (.agg #[a,b]) w:=
 run_loadVar_mid (P:=Tryz.prog) w B 0 168 [a,b] _ (fun j v hv=>by
  match j,hv with
  |0,hv=>cases hv;exact h0
  |1,hv=>cases hv;exact h1
  |j+2,hv=>simp at hv) Tryz.underlying168 rfl (by kernel_rfl)
structure D3 (B:Nat) (a b:Value) (w:World):Prop where
 c0:w.cell? ⟨B,0,none⟩=some a
 c1:w.cell? ⟨B,1,none⟩=some b
 f0:w.frozen? ⟨B,0,none⟩=false
 f1:w.frozen? ⟨B,1,none⟩=false
theorem D3.lt {B:Nat} {a b:Value} {w:World} (h:D3 B a b w):B<w.heap.size:=World.block_lt_of_cell? w _ h.c0
theorem D3.block {B:Nat} {a b:Value} {w w':World} (h:D3 B a b w) (hb:w'.heap[B]? =w.heap[B]?):D3 B a b w':=by
 refine⟨?_,?_,?_,?_⟩
 ·have:=h.c0;simp only[World.cell?]at this ⊢;rw[hb];exact this
 ·have:=h.c1;simp only[World.cell?]at this ⊢;rw[hb];exact this
 ·have:=h.f0;simp only[World.frozen?]at this ⊢;rw[hb];exact this
 ·have:=h.f1;simp only[World.frozen?]at this ⊢;rw[hb];exact this
theorem D3.new (w:World) (a b:Value) (t:TypeId):D3 w.heap.size a b (w.alloc (.cells #[a,b] t)):=by
 have hn:(w.alloc (.cells #[a,b] t)).heap[w.heap.size]? =some (.cells #[a,b] t):=heap_alloc_new w _;exact⟨by simp only[World.cell?,hn];rfl,by simp only[World.cell?,hn];rfl,by simp only[World.frozen?,hn];simp,by simp only[World.frozen?,hn];simp⟩
theorem D3.set2 {B:Nat} {a b:Value} {w:World} (h:D3 B a b w) (a' b':Value):D3 B a' b' ((w.setCell ⟨B,0,none⟩ a').setCell ⟨B,1,none⟩ b'):=by
 have h1:(w.setCell ⟨B,0,none⟩ a').cell? ⟨B,1,none⟩=some b:=by rw[World.cell?_setCell_other _ _ _ _ (fun e=>by cases e)];exact h.c1
 refine⟨?_,World.cell?_setCell_same _ _ _ h1,?_,?_⟩
 ·rw[World.cell?_setCell_other _ _ _ _ (fun e=>by cases e)];exact World.cell?_setCell_same _ _ _ h.c0
 ·rw[World.frozen?_setCell,World.frozen?_setCell];exact h.f0
 ·rw[World.frozen?_setCell,World.frozen?_setCell];exact h.f1
theorem An.set2 {C B:Nat} {v:Value} {xs:List Value} {w:World} (h:An C v xs w) (a b:Value) (hB:B<C):An C v xs ((w.setCell ⟨B,0,none⟩ a).setCell ⟨B,1,none⟩ b):=
 (h.only (Aa.set B 0 a w) (fun _ e=>by cases e;exact hB)).only (Aa.set B 1 b _) (fun _ e=>by cases e;exact hB)
theorem Ld (ks:List Nat):(GF ks).size=2 * ks.length:=by
 show(Eu ks).toArray.size=_;rw[List.size_toArray,DP]
theorem Rk (ks:List Nat):(GF ks).data.toList=Eu ks:=by unfold GF;simp
def Yq (w0:World) (top:Nat) (ks:List Nat) (e:Ending) (w':World):Prop:=∃v,e= .returned (.tuple #[.agg #[.int .i64 (top:Nat),v],.nilIface])/\An (w0.heap.size+1) v (Ay ks) w'/\Below w0.heap.size w0 w'
set_option maxHeartbeats 1000000
theorem O3 (hT:Tt bt bp r w) (h:Tw bp bd bm N s up cm V w) {T:Tr} (hA:D4 V r T):
  Calls Tryz.prog 121 #[.pointer (some ⟨bt,0,none⟩)] w fun e w'=>Yq w T.top T.ks e w':=by
 have H8:Hid _:=hT.lt8;have HA:Hid _:=hA;have hb0:Below w.heap.size w (w.alloc (.cells #[.int .i64 0,.slice none 0 0] 168)):=(Below.refl _ w).alloc (Nat.le_refl _) _;have HT0:Hid (Tt bt bp r (w.alloc (.cells #[.int .i64 0,.slice none 0 0] 168))):=hT.below hb0;have HW0:Hid (Tw bp bd bm N s up cm V (w.alloc (.cells #[.int .i64 0,.slice none 0 0] 168))):=h.below hb0;have q0:=HT0.out.cp;have hl0:=hT.lt;have hz:=Tryz.zeroValue168;clear hA hT h;go_enter Tryz.func121,Tryz.ntmps121;go_wp2_with fail;refine(VJ HW0.out).mono ?_;rintro _ wa ⟨rfl,hwa⟩;subst wa;clear q0;obtain⟨W,hW⟩:∃W,w.alloc (.cells #[.int .i64 0,.slice none 0 0] 168)=W:=⟨_,rfl⟩;have HV0:Hid (D3 w.heap.size (.int .i64 0) (.slice none 0 0) W):=by rw[<-hW];exact D3.new w _ _ _
 have HB0:Hid (Below w.heap.size w W.drew):=by rw[<-hW];exact hb0.drew
 rw[hW]at HT0 HW0;rw[hW];clear hW hb0;have HT:Hid (Tt bt bp r W.drew):=HT0.out.drew;have HW:Hid (Tw bp bd bm N s up cm V W.drew):=HW0.out.drew;have HV:Hid (D3 w.heap.size (.int .i64 0) (.slice none 0 0) W.drew):=HV0.out.block rfl;obtain⟨P,HRP,HP⟩:∃P:Nat,Hid (V.rp r=(P:Nat))/\Hid (P=if T.top=0 then T.ks.headD 0 else T.top):=⟨_,HA.out.rp,rfl⟩;obtain⟨S,HRN,HS⟩:∃S:Nat,Hid (V.rn r=(S:Nat))/\Hid (S=szL T.Ls.flatten):=⟨_,HA.out.rn,rfl⟩;clear HT0 HW0 HV0;go_wp2_with fail
 go_region_held3 (fun wx=>wx.cell? ⟨bt,0,none⟩=some (.pointer (some ⟨bp,0,none⟩))/\wx.cell? ⟨bt,1,none⟩=some (.int .i64 r)) (first|exact⟨HT.out.cp,HT.out.cr⟩|exact⟨HT1.out.cp,HT1.out.cr⟩)
  (first|(go_at_call 46;refine(LV HW.out r H8.out).mono ?_;rintro _ w1 ⟨rfl,hb1⟩;rw[HRP.out,HRN.out];have HT1:Hid _:=HT.out.below hb1;have HW1:Hid _:=HW.out.below hb1;have HV1:Hid (D3 w.heap.size (.int .i64 0) (.slice none 0 0) w1):=HV.out.block (hb1.block _ HV.out.lt);have HB1:Hid (Below w.heap.size w w1):=HB0.out.trans (hb1.mono HB0.out.size);clear hb1))
 clear HT HW HV HB0 HRP HRN;have c0:=HV1.out.c0;have c1:=HV1.out.c1;have f0:=HV1.out.f0;have f1:=HV1.out.f1;rcases Nat.lt_or_ge 1 T.Ls.length with hm|hm
 ·have htop:T.top≠0:=fun e=>by have:=HA.out.top0.1 e;omega
  obtain⟨t1,t2,t3,t4⟩:=HA.out.ltop htop;obtain rfl:P=T.top:=by rw[HP.out,if_neg htop]
  have hsum:¬(S:Int)<=1024:=by have:=HA.out.ok.many hm;have:=HS.out;omega
  have hti:¬(T.top:Int)=0:=by omega
  have q0:=HT1.out.cp;have HX:Hid (V.tx T.top=pad (GF T.ks)):=t3;go_wp2_with fail;refine(Jm HW1.out T.top t1 t2).mono ?_;rintro _ w2 ⟨rfl,hb2⟩;rw[HX.out];have HB2:Hid (Below w.heap.size w w2):=HB1.out.trans (hb2.mono HB1.out.size);have HV2:Hid (D3 w.heap.size (.int .i64 0) (.slice none 0 0) w2):=HV1.out.block (hb2.block _ HV1.out.lt);clear hb2 c0 c1 f0 f1 q0;go_wp2_with fail;have hlen:=HA.out.ok.len;have hkl:=HA.out.len;refine(N3 (ks:=T.ks) (z:=1024-(GF T.ks).size) w2 (by rw[NL _ (by rw[Ld];omega)];exact congrArg (·++_) (Rk T.ks)) (fun k hk=>⟨(HA.out.low k hk).1,(HA.out.low k hk).2.1⟩) (by rw[JR];omega)).mono ?_;rintro _ w3 ⟨v,rfl,hR3,hb3⟩;have HB3:Hid (Below w.heap.size w w3):=HB2.out.trans (hb3.mono HB2.out.size);have HV3:Hid (D3 w.heap.size (.int .i64 0) (.slice none 0 0) w3):=HV2.out.block (hb3.block _ HV2.out.lt);have HR3:Hid (An (w.heap.size+1) v (Ay T.ks) w3):=(Em.view hR3).mono HV2.out.lt;have c0:=HV3.out.c0;have c1:=HV3.out.c1;have f0:=HV3.out.f0;have f1:=HV3.out.f1;clear hb3 hR3 hlen hkl;obtain⟨a9,cap9,rfl,_⟩:=HR3.out.is;have HV4:Hid _:=HV3.out.set2 (.int .i64 (T.top:Nat)) (.slice a9 (Ay T.ks).length cap9);have HR4:Hid _:=HR3.out.set2 (.int .i64 (T.top:Nat)) (.slice a9 (Ay T.ks).length cap9) (B:=w.heap.size) (Nat.lt_succ_self _);have HB4:Hid (Below w.heap.size w ((w3.setCell ⟨w.heap.size,0,none⟩ (.int .i64 (T.top:Nat))).setCell ⟨w.heap.size,1,none⟩ (.slice a9 (Ay T.ks).length cap9))):=(HB3.out.setCell (Nat.le_refl _) _).setCell (Nat.le_refl _) _;go_wp2
  (try simp only[Exit.inBlock,Exit.then])
  exact bodyPost_ret (DD Tryz.results121 _ _ _ rfl rfl (Pz HV4.out.c0 HV4.out.c1)) rfl ⟨_,rfl,HR4.out,HB4.out⟩
 ·have htop:T.top=0:=HA.out.top0.2 (by omega)
  rcases Nat.eq_zero_or_pos T.Ls.length with h0|h0
  ·have hk0:T.ks=[]:=List.length_eq_zero_iff.1 (by rw[HA.out.len,h0])
   obtain rfl:P=0:=by rw[HP.out,if_pos htop,hk0];rfl
   have HK0:Hid _:=hk0;have HTOP:Hid _:=htop;clear hk0 htop;have HV4:Hid _:=HV1.out.set2 (.int .i64 0) (.slice none 0 0);have HR4:Hid (An (w.heap.size+1) (.slice none 0 0) (Ay []) w1):=An.of_own (e:=3) (World.ownsRow_nil _ _ _ _);have HR5:Hid _:=HR4.out.set2 (.int .i64 0) (.slice none 0 0) (B:=w.heap.size) (Nat.lt_succ_self _);have HB4:Hid (Below w.heap.size w ((w1.setCell ⟨w.heap.size,0,none⟩ (.int .i64 0)).setCell ⟨w.heap.size,1,none⟩ (.slice none 0 0))):=(HB1.out.setCell (Nat.le_refl _) _).setCell (Nat.le_refl _) _;have hbd:∀wx,(Instr.build 168 #[]).run Tryz.prog wx= .ok (.agg #[.int .i64 0,.slice none 0 0]) wx:=fun wx=>by simp[go_sem,hz]
   go_wp2
   (try simp only[Exit.inBlock,Exit.then])
   exact bodyPost_ret (DD Tryz.results121 _ _ _ rfl rfl (Pz HV4.out.c0 HV4.out.c1)) rfl ⟨_,by rw[HTOP.out];rfl,by rw[HK0.out];exact HR5.out,HB4.out⟩
  ·obtain⟨k,hk⟩:∃k,T.ks=[k]:=List.length_eq_one_iff.1 (by rw[HA.out.len];omega)
   obtain rfl:P=k:=by rw[HP.out,if_pos htop,hk];rfl
   have hkp:=(HA.out.low P (by rw[hk];simp)).1;have hki:¬(P:Int)=0:=by omega
   have hsum:(S:Int)<=1024:=by have:=HA.out.ok.few hm;have:=HS.out;omega
   have HK0:Hid _:=hk;have HTOP:Hid _:=htop;have HN:Hid (An (w.heap.size+1) (.slice (some ⟨w1.heap.size,0,none⟩) 1 1) (Ay [P]) (w1.alloc (.cells #[.int .i64 (P:Nat)] 3))):=An.of_own (e:=3) (World.ownsRow_lit w1 #[.int .i64 (P:Nat)] 1 HV1.out.lt (by decide) rfl);have HV2:Hid (D3 w.heap.size (.int .i64 0) (.slice none 0 0) (w1.alloc (.cells #[.int .i64 (P:Nat)] 3))):=HV1.out.block (Below.heap_alloc w1 _ _ HV1.out.lt);have HV4:Hid _:=HV2.out.set2 (.int .i64 0) (.slice (some ⟨w1.heap.size,0,none⟩) 1 1);have HR5:Hid _:=HN.out.set2 (.int .i64 0) (.slice (some ⟨w1.heap.size,0,none⟩) 1 1) (B:=w.heap.size) (Nat.lt_succ_self _);have HB4:Hid (Below w.heap.size w (((w1.alloc (.cells #[.int .i64 (P:Nat)] 3)).setCell ⟨w.heap.size,0,none⟩ (.int .i64 0)).setCell ⟨w.heap.size,1,none⟩ (.slice (some ⟨w1.heap.size,0,none⟩) 1 1))):=((HB1.out.alloc HB1.out.size _).setCell (Nat.le_refl _) _).setCell (Nat.le_refl _) _;have c0:=HV2.out.c0;have c1:=HV2.out.c1;have f0:=HV2.out.f0;have f1:=HV2.out.f1;clear hk htop;go_wp2
   (try simp only[Exit.inBlock,Exit.then])
   exact bodyPost_ret (DD Tryz.results121 _ _ _ rfl rfl (Pz HV4.out.c0 HV4.out.c1)) rfl ⟨_,by rw[HTOP.out];rfl,by rw[HK0.out];exact HR5.out,HB4.out⟩
end
end
section
open Go.RowKit Go.Proofs
theorem Eg (x y:ByteArray):bl x y=true↔x.data.toList<y.data.toList:=by
 unfold bl;rw[bytesLess_eq,ByteArray.toList_eq,ByteArray.toList_eq];exact decide_eq_true_iff
theorem AM (x:ByteArray):bl x x=false:=by
 cases h:bl x x
 ·rfl
 ·exact absurd ((Eg x x).1 h) (List.lt_irrefl _)
theorem Dx {x y z:ByteArray} (h1:bl x y=true) (h2:bl y z=true):bl x z=true:=
 (Eg x z).2 (List.lt_trans ((Eg x y).1 h1) ((Eg y z).1 h2))
theorem Gn (x y:ByteArray):bl x y=true\/x=y\/bl y x=true:=by
 by_cases h:x.data.toList<y.data.toList
 ·exact .inl ((Eg x y).2 h)
 ·by_cases h2:y.data.toList<x.data.toList
  ·exact .inr (.inr ((Eg y x).2 h2))
  ·exact .inr (.inl (ByteArray.ext (Array.toList_inj.1 (List.le_antisymm (List.not_lt.1 h2) (List.not_lt.1 h)))))
def bg (x y:ByteArray):Bool:= !bl x y && !(x.toList == y.toList)
theorem ML (x y:ByteArray):bg x y=bl y x:=by
 unfold bg;rcases Gn x y with h|rfl|h
 ·rw[h]
  cases h2:bl y x
  ·rfl
  ·have:=Dx h h2
   rw[AM]at this;cases this
 ·rw[AM];simp
 ·have h3:bl x y=false:=by
   cases h4:bl x y
   ·rfl
   ·have:=Dx h h4
    rw[AM]at this;cases this
  rw[h3,h]
  have:(x.toList == y.toList)=false:=by
   cases h4:(x.toList == y.toList)
   ·rfl
   ·have:=Dw h4
    subst this;rw[AM]at h;cases h
  rw[this];rfl
end
section
open Go.RowKit
structure Ra (n:Nat) (p:Nat->Bool) (i:Nat):Prop where
 le:i<=n
 no:∀k,k<i->p k=false
 yes:∀k,i<=k->k<n->p k=true
set_option maxHeartbeats 1000000
theorem OS {fid:Nat} {caps:Array Value} (n:Nat) (hn:n<=100000) (p:Nat->Bool) (hm:∀i j,i<=j->j<n->p i=true->p j=true) (Inv:World->Prop) (eg:∀args w,(callFunc fid args).run Tryz.prog w= .ok (.enter fid args) w)
  (hcb:∀i (_:i<n) (w:World),Inv w->Calls Tryz.prog fid (#[.int .i64 (i:Nat)]++caps) w fun e w'=>e= .returned (.bool (p i))/\Inv w') (w:World) (h0:Inv w):
  Calls Tryz.prog 122 #[.int .i64 (n:Nat),.func (.func fid) #[] caps] w fun e w'=>∃i:Nat,e= .returned (.int .i64 (i:Nat))/\Ra n p i/\Inv w':=by
 have HI:Hid _:=h0;have HC:Hid _:=hcb;have HM:Hid _:=hm;clear h0 hcb hm;go_enter Tryz.func122,Tryz.ntmps122;go_wp2_with fail;go_loopw [5,6] (fun i j wr=>∃a b:Nat,a<=b/\b<=n/\i= .int .i64 (a:Nat)/\j= .int .i64 (b:Nat)/\Hid (∀k,k<a->p k=false)/\Hid (∀k,b<=k->k<n->p k=true)/\Hid (Inv wr)) (fun i j _=>(intOf j).toNat-(intOf i).toNat)
 case atStart=>exact⟨0,n,Nat.zero_le _,Nat.le_refl _,rfl,rfl,fun k hk=>absurd hk (Nat.not_lt_zero k),fun k h1 h2=>absurd h2 (by omega),HI⟩
 case round=>
  clear HI;obtain⟨a,b,hab,hbn,rfl,rfl,HL,HR,HI⟩:=hrel
  by_cases hlt:a<b
  ·have h1:(a:Int)<(b:Int):=by omega
   obtain⟨h,hh1,hh2,HH⟩:∃h:Nat,a<=h/\h<b/\Hid (((a:Int)+(b:Int)) / 2=(h:Nat)):=⟨(a+b) / 2,by omega,by omega,by show _=_;omega⟩;go_wp2_with fail;rw[HH.out];refine(HC.out h (by omega) _ HI.out).mono ?_;rintro _ w1 ⟨rfl,hI1⟩;have HI1:Hid _:=hI1;clear hI1 HI
   cases hp:p h
   ·have HL2:Hid (∀k,k<h+1->p k=false):=fun k hk=>by
     cases hpk:p k
     ·rfl
     ·exact absurd (HM.out k h (by omega) (by omega) hpk) (by rw[hp];decide)
    go_wp2_with fail;go_roundw
    case rel=>exact⟨h+1,b,by omega,hbn,by go_num,rfl,HL2,HR,HI1⟩
    case measure=>simp[intOf];omega
   ·have HR2:Hid (∀k,h<=k->k<n->p k=true):=fun k hk h2=>HM.out h k hk h2 hp
    go_wp2_with fail;go_roundw
    case rel=>exact⟨a,h,hh1,by omega,rfl,rfl,HL,HR2,HI1⟩
    case measure=>simp[intOf];omega
  ·have h1:¬(a:Int)<(b:Int):=by omega
   obtain rfl:a=b:=by omega
   go_wp2;go_ret;exact⟨a,rfl,⟨hbn,HL.out,HR.out⟩,HI.out⟩
end
end Go.Proofs.YtgfldnaahojnlaaGreatDoor
