/- StoreFinds: part 14. -/
import Derived.Test.YtihnldkgeelehaaGreatDoorF11
import Derived.Lib.AppendZerosOnto
set_option maxRecDepth 100000
set_option maxHeartbeats 4000000
namespace Go.Proofs.YtihnldkgeelehaaGreatDoor
section
open Go.RowKit Go.Maps
section
variable {t e:TypeId} (ht:Tryz.prog.underlying t=some (.slice e)) (he:Tryz.prog.elem t=e) (hs:(Tryz.prog.info? e).map (·.size)=some 1) (g n cap:Nat)
include ht he hs
theorem Dr (k:Nat) (hk:k<cap) (hkn:k<=n) (x:Int) (hx:x=k) (wx:World):(Instr.slice t (.slice (some ⟨g,0,none⟩) n cap) (some (.int .i64 x)) none none).run Tryz.prog wx= .ok (.slice (some ⟨g,k,none⟩) (n-k) (cap-k)) wx:=by
 subst hx he
 have hz:(sizeOf (Tryz.prog.elem t)).run Tryz.prog wx= .ok 1 wx:=by
  cases hq:Tryz.prog.info? (Tryz.prog.elem t)with
  |none=>rw[hq]at hs;cases hs
  |some i=>rw[hq]at hs;simp[sizeOf,typeInfo,hq];simpa using hs
 rw[run_slice_l wx t _ _ cap ht .i64 k (by omega) (by omega),hz];simp[Result.andThen,sliced,A6];omega
theorem Hg (j:Nat) (hj:j<=cap) (y:Int) (hy:y=j) (wx:World):(Instr.slice t (.slice (some ⟨g,0,none⟩) n cap) none (some (.int .i64 y)) none).run Tryz.prog wx= .ok (.slice (some ⟨g,0,none⟩) j cap) wx:=by
 subst hy he
 have hz:(sizeOf (Tryz.prog.elem t)).run Tryz.prog wx= .ok 1 wx:=by
  cases hq:Tryz.prog.info? (Tryz.prog.elem t)with
  |none=>rw[hq]at hs;cases hs
  |some i=>rw[hq]at hs;simp[sizeOf,typeInfo,hq];simpa using hs
 rw[run_slice_h wx t _ _ cap ht .i64 j (by omega) (by omega),hz];simp[Result.andThen,sliced,A6]
theorem GF (k j:Nat) (hk:k<cap) (hkj:k<=j) (hj:j<=cap) (x y:Int) (hx:x=k) (hy:y=j) (wx:World):(Instr.slice t (.slice (some ⟨g,0,none⟩) n cap) (some (.int .i64 x)) (some (.int .i64 y)) none).run Tryz.prog wx= .ok (.slice (some ⟨g,k,none⟩) (j-k) (cap-k)) wx:=by
 subst hx hy he
 have hz:(sizeOf (Tryz.prog.elem t)).run Tryz.prog wx= .ok 1 wx:=by
  cases hq:Tryz.prog.info? (Tryz.prog.elem t)with
  |none=>rw[hq]at hs;cases hs
  |some i=>rw[hq]at hs;simp[sizeOf,typeInfo,hq];simpa using hs
 rw[run_slice_lh wx t _ _ cap ht .i64 .i64 k j (by omega) (by omega) (by omega),hz];simp[Result.andThen,sliced,A6];omega
end
theorem AM.own {g cap B:Nat} {ts:List ByteArray} {w:World} (h:AM g cap (ts.map .string) w) (hB:B<=g) (i:Nat) (hi:i<=ts.length):Cl B (.slice (some ⟨g,0,none⟩) i cap) (ts.take i) w:=by
 obtain⟨cur,h1,h2,h3⟩:=h.ex;have hle:=h.le;rw[List.length_map]at hle h3;have hl:(ts.take i).length=i:=by rw[List.length_take];omega
 refine⟨by simp,.inr ⟨g,cap,cur,by rw[hl],hB,h1,by omega,h.cm,by rw[h2,Nat.mul_one],?_⟩⟩;rw[hl,Nat.mul_one,List.map_take,<-h3,List.take_take,Nat.min_eq_left hi]
set_option maxHeartbeats 1000000
theorem M1 {B g cap vb vc i:Nat} {ts ps:List ByteArray} (w:World) (hr:AM g cap (ts.map .string) w) (hB:B<=g) (hn:ts.length<=1000) (hBw:B<=w.heap.size) (hi:i+1=ts.length) (hm:1<=ps.length) (hm2:ps.length<=2) (hv:AM vb vc (ps.map .string) w):
  Calls Tryz.prog 176 #[.slice (some ⟨g,0,none⟩) ts.length cap,.int .i64 (i:Nat),.int .i64 ((i+1:Nat):Int),.slice (some ⟨vb,0,none⟩) ps.length vc] w fun e w'=>∃v',e= .returned v'/\Ao B v' ((ts.take i++ps).map Value.string) w'/\Aa (fun b=>B<=b) w w':=by
 have hle:=hr.le;rw[List.length_map,<-hi]at hle;rw[<-hi];have hs1:=GF Tryz.underlying85 AP B7 g (i+1) cap i (i+1) (by omega) (by omega) (by omega) (i:Nat) ((i:Int)+1) rfl (by omega);have hs2:=Hg Tryz.underlying85 AP B7 g (i+1) cap i (by omega) (i:Nat) rfl;have HO:Hid _:=hr.own hB i (by omega);have HV:Hid _:=hv;have hne:¬((i:Int)=(i:Int)+1):=by omega
 have hll:(ts.take i).length=i:=by rw[List.length_take];omega
 have HLL:Hid _:=hll;obtain⟨i0,hi0,hz0,hz1,hz2⟩:=MQ;obtain⟨m,hmm⟩:∃m,ps.length=m:=⟨_,rfl⟩;rw[hmm]at hm hm2;rw[hmm];have HM:Hid (ps.length=m):=hmm;have hib:i<=1000:=by omega
 clear hr hv hmm hll hi;go_enter Tryz.func176,Tryz.ntmps176
 go_wp2_with (at_builtin;refine wpList_append_own _ rfl _ _ 85 rfl B 9 i0 (.string ⟨#[]⟩) 1 16 Tryz.underlying85 hi0 hz0 hz1 hz2 rfl (by decide) _ _ _ rfl HO.out ⟨vb,0,none⟩ m vc (ps.map .string) rfl (by rw[List.length_map,HM.out,Nat.mul_one]) (fun j u hu=>by rw[A6,Nat.zero_add];exact HV.out.cell j u hu) (Ct ps) (by rw[HLL.out];simp only[maxLen];omega) (by rw[HLL.out];omega) hBw ?_;intro v' w' hO hG hN;obtain⟨g2,cap2,hv2,_,_⟩:=World.ownsRow.form hO (by rw[HLL.out];omega);subst hv2;have HO2:Hid (Cl B (.slice (some ⟨g2,0,none⟩) ((ts.take i).length+m) cap2) (ts.take i++ps) w'):=(by unfold Cl;rw[List.length_append,List.map_append,HM.out];exact hO);have HG:Hid (Aa (fun b=>B<=b) w w'):=By hG (fun b e=>(World.ownsRow.lt HO.out b e).1);clear hO hG hN;rw[HLL.out]at HO2;rw[HLL.out])
 go_ret;refine⟨_,rfl,?_,HG.out⟩;have:=Cl.view HO2.out;exact this
set_option maxHeartbeats 4000000
theorem L1 {B g cap vb vc i d:Nat} {ts ps:List ByteArray} (w:World) (hr:AM g cap (ts.map .string) w) (hn:ts.length<=1000) (hBw:B<=w.heap.size) (hi:ts.length=i+1+d) (hd:0<d) (hm:1<=ps.length) (hm2:ps.length<=2) (hv:AM vb vc (ps.map .string) w) (hroom:cap<i+ps.length+d):
  Calls Tryz.prog 176 #[.slice (some ⟨g,0,none⟩) ts.length cap,.int .i64 (i:Nat),.int .i64 ((i+1:Nat):Int),.slice (some ⟨vb,0,none⟩) ps.length vc] w fun e w'=>∃v',e= .returned v'/\Ao B v' ((ts.take i++ps++ts.drop (i+1)).map Value.string) w'/\Aa (fun b=>B<=b) w w':=by
 have hle:=hr.le;rw[List.length_map,hi]at hle;rw[hi];obtain⟨m,hmm⟩:∃m,ps.length=m:=⟨_,rfl⟩;rw[hmm]at hm hm2 hroom;rw[hmm];have hs1:=GF Tryz.underlying85 AP B7 g (i+1+d) cap i (i+1) (by omega) (by omega) (by omega) (i:Nat) ((i:Int)+1) rfl (by omega);have hs2:=Hg Tryz.underlying85 AP B7 g (i+1+d) cap i (by omega) (i:Nat) rfl;have hs3:=Dr Tryz.underlying85 AP B7 g (i+1+d) cap (i+1) (by omega) (by omega) ((i:Int)+1) (by omega);have e1:i+1+d-(i+1)=d:=by omega
 rw[e1]at hs3;have hne:¬((i:Int)=(i:Int)+1):=by omega
 have hne2:¬((i:Int)+1=(i:Int)+1+(d:Int)):=by omega
 have hib:i<=1000:=by omega
 have hdb:d<=1000:=by omega
 have HI:Hid (ts.length=i+1+d):=hi;have HM:Hid (ps.length=m):=hmm;clear hi e1 hmm;go_enter Tryz.func176,Tryz.ntmps176;go_wp2_with fail;go_quiet (fail);obtain⟨wq,hwq⟩:∃wq,w.drewN nq=wq:=⟨_,rfl⟩;have hbq:Below w.heap.size w wq:=by rw[<-hwq];exact A4 (Below.refl _ w) nq
 have hszq:wq.heap.size=w.heap.size:=by rw[<-hwq];rfl
 have hrq:AM g cap (ts.map .string) wq:=hr.block (hbq.block _ hr.lt);have hvq:AM vb vc (ps.map .string) wq:=hv.block (hbq.block _ hv.lt);rw[hwq];have HBQ:Hid (Below w.heap.size w wq):=hbq;have hBq:B<=wq.heap.size:=by omega
 clear hwq hr hv hbq hszq;have hgq:=hrq.lt;have hvlt:=hvq.lt;have hcs:∀j u,(ts.map Value.string)[j]? =some u->wq.cell? ⟨g,j,none⟩=some u:=fun j u hj=>hrq.cell j u hj;have hvs:∀j u,(ps.map Value.string)[j]? =some u->wq.cell? ⟨vb,j,none⟩=some u:=fun j u hj=>hvq.cell j u hj;have hlt:(ts.map Value.string).length=i+1+d:=by rw[List.length_map];exact HI.out
 have hlp:(ps.map Value.string).length=m:=by rw[List.length_map];exact HM.out
 obtain⟨i0,hi0,hz0,hzs,hzb⟩:=MQ
 have hold:(Builtin.firstCells i0.size i (.slice (some ⟨g,0,none⟩) i cap)).run Tryz.prog wq.drew= .ok ((ts.map Value.string).take i).toArray wq.drew:=by
  rw[hzs]
  exact run_firstCells_some wq.drew 1 i ⟨g,0,none⟩ i cap ((ts.map Value.string).take i) (by rw[List.length_take,hlt];omega) (fun j u hj=>by
   rw[A6,Nat.zero_add];rw[List.getElem?_take]at hj;split at hj
   ·exact hcs j u hj
   ·cases hj)
 have hrz:∀ty,(Builtin.append_ #[85,3] ty #[.slice (some ⟨g,0,none⟩) i cap,.int .i64 ((i:Int)+(m:Int)+(d:Int)-(i:Int))]).run Tryz.prog wq=
   .ok (.slice (some ⟨wq.heap.size,0,none⟩) (i+m+d) (grownCap wq (i+m+d) cap 9)) (wq.drew.alloc (.cells (((ts.map Value.string).take i).toArray++Builtin.zeroCells (Value.string ⟨#[]⟩).cells (m+d)++Builtin.zeroCells (Value.string ⟨#[]⟩).cells (grownCap wq (i+m+d) cap 9-(i+m+d))) 9)):=fun ty=>by
  have h:=Lib.run_append_grow_zeros wq 85 3 ty 9 i0 (.string ⟨#[]⟩) .i64 .i64 Tryz.underlying85 Tryz.underlying3 hi0 hz0 (some ⟨g,0,none⟩) i cap ((ts.map Value.string).take i) hold (m+d) (by omega) (by omega) (by omega) (by omega) (by rw[hzb];omega) (by rw[hzb];exact growslice_fits (by omega) (by omega));rw[show i+(m+d)=i+m+d by omega]at h;rw[show(i:Int)+(m:Int)+(d:Int)-(i:Int)=((m+d:Nat):Int) by omega];exact h
 have hGn:=grownCap_ge wq (i+m+d) cap 9;have hGm:=grownCap_le_maxLen wq (i+m+d) cap 9 (by unfold maxLen;omega);obtain⟨G,hG⟩:∃G,grownCap wq (i+m+d) cap 9=G:=⟨_,rfl⟩;rw[hG]at hrz hGn hGm;obtain⟨ROW,hROW⟩:∃ROW:Array Value,((ts.map Value.string).take i).toArray++Builtin.zeroCells (Value.string ⟨#[]⟩).cells (m+d)++Builtin.zeroCells (Value.string ⟨#[]⟩).cells (G-(i+m+d))=ROW:=⟨_,rfl⟩
 have hRl:ROW.size=G:=by
  rw[<-hROW];simp[Builtin.zeroCells,Value.cells];have:=HI.out;omega
 have hRc:∀j (hj:j<i),ROW[j]? =some ((ts.map Value.string)[j]'(by omega)):=fun j hj=>by
  rw[<-hROW,Array.getElem?_append_left (by simp;have:=HI.out;omega),Array.getElem?_append_left (by simp;have:=HI.out;omega)];simp[hj]
 rw[hROW]at hrz;obtain⟨W1,hW1⟩:∃W1,wq.drew.alloc (.cells ROW 9)=W1:=⟨_,rfl⟩;have hnew:W1.heap[wq.heap.size]? =some (.cells ROW 9):=by rw[<-hW1];exact heap_alloc_new wq.drew _
 have hszW:W1.heap.size=wq.heap.size+1:=by rw[<-hW1];exact World.size_alloc _ _
 have hN:∀j,j<G->(W1.cell? ⟨wq.heap.size,j,none⟩).isSome=true:=fun j hj=>by
  simp only[World.cell?,hnew];simp[hRl,hj]
 have hNf:∀j,W1.frozen? ⟨wq.heap.size,j,none⟩=false:=fun j=>by simp[World.frozen?,hnew]
 have hNc:∀j (hj:j<i),W1.cell? ⟨wq.heap.size,j,none⟩=some ((ts.map Value.string)[j]'(by omega)):=fun j hj=>by
  simp only[World.cell?,hnew];have:=hRc j hj;simpa using this
 have hO:∀k,k<wq.heap.size->W1.heap[k]? =wq.heap[k]? :=fun k hk=>by rw[<-hW1];exact Below.heap_alloc wq.drew _ k hk
 have hbW:Below wq.heap.size wq W1:=by rw[<-hW1];exact(Below.refl _ wq).drew.alloc (Nat.le_refl _) _
 have hcpA:∀ty,(Builtin.copy_ #[85,85] ty #[.slice (some ⟨wq.heap.size,i,none⟩) (i+m+d-i) (G-i),.slice (some ⟨vb,0,none⟩) m vc]).run Tryz.prog W1= .ok (goInt (ps.map Value.string).length) (W1.setCells wq.heap.size i (ps.map Value.string)):=fun ty=>
  run_copy_cells W1 85 85 ty 9 wq.heap.size i (i+m+d-i) (G-i) ⟨vb,0,none⟩ m vc (ps.map Value.string) Tryz.underlying85 B7 (by rw[hlp];simp only[Nat.min_def];split<;>omega)
   (fun j u hj=>by rw[A6,Nat.zero_add,BR (hO vb hvlt)];exact hvs j u hj)
   (fun j hj=>hN _ (by omega)) (fun j hj=>hNf _) (Ct ps)
 have hs4:=Dr Tryz.underlying85 AP B7 wq.heap.size (i+m+d) G i (by omega) (by omega) (i:Nat) rfl;have hs5:=Dr Tryz.underlying85 AP B7 wq.heap.size (i+m+d) G (i+m) (by omega) (by omega) ((i:Int)+(m:Int)) (by omega);rw[show i+m+d-(i+m)=d by omega]at hs5;rw[hlp]at hcpA;obtain⟨W2,hW2⟩:∃W2,W1.setCells wq.heap.size i (ps.map Value.string)=W2:=⟨_,rfl⟩;rw[hW2]at hcpA;have hdl:((ts.map Value.string).drop (i+1)).length=d:=by rw[List.length_drop,hlt];omega
 have hN2:∀j,j<G->(W2.cell? ⟨wq.heap.size,j,none⟩).isSome=true:=fun j hj=>by
  rw[<-hW2];exact isSome_setCells _ _ _ _ (fun q hq=>hN _ (by omega)) _ (hN j hj)
 have hcpB:∀(W:World),(∀x,W.cell? x=W2.cell? x)->(∀x,W.frozen? x=W2.frozen? x)->∀ty,(Builtin.copy_ #[85,85] ty #[.slice (some ⟨wq.heap.size,i+m,none⟩) d (G-(i+m)),.slice (some ⟨g,i+1,none⟩) d (cap-(i+1))]).run Tryz.prog W= .ok (goInt ((ts.map Value.string).drop (i+1)).length) (W.setCells wq.heap.size (i+m) ((ts.map Value.string).drop (i+1))):=fun W hWc hWf ty=>
  run_copy_cells W 85 85 ty 9 wq.heap.size (i+m) d (G-(i+m)) ⟨g,i+1,none⟩ d (cap-(i+1)) ((ts.map Value.string).drop (i+1)) Tryz.underlying85 B7 (by rw[hdl];exact(Nat.min_self d).symm)
   (fun j u hj=>by
     rw[A6,hWc,<-hW2,World.cell?_setCells_out _ _ _ _ _ (fun h _=>absurd h (by show g≠_;omega)),BR (hO g hgq)];exact hcs (i+1+j) u (by rwa [List.getElem?_drop]at hj))
   (fun j hj=>by rw[hWc];exact hN2 _ (by omega)) (fun j hj=>by rw[hWf,<-hW2,World.frozen?_setCells];exact hNf _) (fun u hu=>Ct ts u (List.mem_of_mem_drop hu))
 have hfin:Hid (∀W:World,(∀x,W.cell? x=W2.cell? x)->W.heap.size=W2.heap.size->Ao B (.slice (some ⟨wq.heap.size,0,none⟩) (i+m+d) G) ((ts.take i++ps++ts.drop (i+1)).map Value.string) (W.setCells wq.heap.size (i+m) ((ts.map Value.string).drop (i+1)))):=fun W hWc hWs=>by
  have el:i+m+d=((ts.take i++ps++ts.drop (i+1)).map Value.string).length:=by
   have:=HI.out;have:=HM.out;simp;omega
  have hfl:((ts.take i++ps++ts.drop (i+1)).map Value.string)=(ts.map Value.string).take i++ps.map Value.string++(ts.map Value.string).drop (i+1):=by simp[List.map_take,List.map_drop]
  rw[el]at hGn ⊢;refine CV (by omega) (by rw[A3,hWs,<-hW2,A3,hszW];omega) hGn hGm (fun j hj=> ?_);rw[<-el]at hj hGn;have hti:((ts.map Value.string).take i).length=i:=by rw[List.length_take,hlt];omega
  rcases Nat.lt_or_ge j (i+m)with h1|h1
  ·rw[World.cell?_setCells_out _ _ _ _ _ (fun _ _=> .inl h1),hWc,<-hW2]
   rcases Nat.lt_or_ge j i with h2|h2
   ·rw[World.cell?_setCells_out _ _ _ _ _ (fun _ _=> .inl h2),hNc j h2]
    congr 1;simp only[hfl];rw[List.getElem_append_left (by rw[List.length_append,hti];omega),List.getElem_append_left (by rw[hti];omega),List.getElem_take]
   ·have h5:=World.cell?_setCells_in wq.heap.size (ps.map Value.string) i W1 (fun q hq=>hN _ (by omega)) (j-i) (by omega)
    rw[show i+(j-i)=j by omega]at h5;rw[h5];congr 1;simp only[hfl];rw[List.getElem_append_left (by rw[List.length_append,hti];omega),List.getElem_append_right (by rw[hti];omega)];simp only[hti]
  ·have h5:=World.cell?_setCells_in wq.heap.size ((ts.map Value.string).drop (i+1)) (i+m) W (fun q hq=>by rw[hWc];exact hN2 _ (by omega)) (j-(i+m)) (by omega)
   rw[show i+m+(j-(i+m))=j by omega]at h5;rw[h5];congr 1;simp only[hfl];rw[List.getElem_append_right (by rw[List.length_append,hti];omega)];simp only[List.length_append,hti,hlp]
 have hgt:(cap:Int)<(i:Int)+(m:Int)+(d:Int):=by omega
 have hGi:¬(G=i):=by omega
 have HOB:Hid (Aa (fun b=>B<=b) w W2):=by
  refine((Ab HBQ.out _).trans (Ab hbW _) (fun _ e=> .inl e)).trans (by rw[<-hW2];exact Aa.setCells wq.heap.size _ _ _) (fun k e=> .inl ?_);show B<=k;omega
 clear hold hROW hG hRl hRc hnew hN hNf hNc hO hbW hcs hvs hN2 hrq hvq hlt hszW
 go_wp2_with (first
  |(at_builtin;refine Lib.wpList_append_run _ rfl _ _ _ _ rfl _ _ rfl rfl _ _ (hrz _) ?_;rw[hW1])
  |(at_builtin;refine wpList_copy_runI _ rfl _ _ 85 85 rfl _ _ rfl rfl (hcpA _) ?_))
 have hw1:IntKind.i64.wrap ((i:Int)+(m:Int))=(i:Int)+(m:Int):=by rw[IntKind.wrap_i64];omega
 have hcpB2:=hcpB W2.drew (fun _=>rfl) (fun _=>rfl) 3;have HFIN:Hid _:=hfin.out W2.drew (fun _=>rfl) rfl;have HOC:Hid (Aa (fun b=>B<=b) w (W2.drew.setCells wq.heap.size (i+m) ((ts.map Value.string).drop (i+1)))):=HOB.out.drew.trans (Aa.setCells wq.heap.size _ _ _) (fun k e=> .inl (by show B<=k;omega));rw[hdl]at hcpB2;obtain⟨W3,hW3⟩:∃W3,W2.drew.setCells wq.heap.size (i+m) ((ts.map Value.string).drop (i+1))=W3:=⟨_,rfl⟩;rw[hW3]at hcpB2 HFIN HOC;clear hcpB hfin hW3 hW2 hcpA hrz hW1
 go_region_law (fail)
 go_wp2;go_ret;exact⟨_,rfl,HFIN.out,HOC.out⟩
theorem Ly {B g cap vb vc i d:Nat} {ts ps:List ByteArray} (w:World) (hr:AM g cap (ts.map .string) w) (hB:B<=g) (hn:ts.length<=1000) (hi:ts.length=i+1+d) (hd:0<d) (hm:ps.length=1) (hv:AM vb vc (ps.map .string) w) (hroom:i+1+d<=cap):
  Calls Tryz.prog 176 #[.slice (some ⟨g,0,none⟩) ts.length cap,.int .i64 (i:Nat),.int .i64 ((i+1:Nat):Int),.slice (some ⟨vb,0,none⟩) ps.length vc] w fun e w'=>∃v',e= .returned v'/\Ao B v' ((ts.take i++ps++ts.drop (i+1)).map Value.string) w'/\Aa (fun b=>B<=b) w w':=by
 rw[hi,hm];have hcm:=hr.cm;have hs1:=GF Tryz.underlying85 AP B7 g (i+1+d) cap i (i+1) (by omega) (by omega) (by omega) (i:Nat) ((i:Int)+1) rfl (by omega);have hs2:=Hg Tryz.underlying85 AP B7 g (i+1+d) cap i (by omega) (i:Nat) rfl;have hs3:=Dr Tryz.underlying85 AP B7 g (i+1+d) cap (i+1) (by omega) (by omega) ((i:Int)+1) (by omega);have e1:i+1+d-(i+1)=d:=by omega
 rw[e1]at hs3;have hne:¬((i:Int)=(i:Int)+1):=by omega
 have hne2:¬((i:Int)+1=(i:Int)+1+(d:Int)):=by omega
 have hib:i<=1000:=by omega
 have hdb:d<=1000:=by omega
 have HI:Hid (ts.length=i+1+d):=hi;have HM:Hid (ps.length=1):=hm;clear hi e1 hm;go_enter Tryz.func176,Tryz.ntmps176;go_wp2_with fail;go_quiet (fail);obtain⟨wq,hwq⟩:∃wq,w.drewN nq=wq:=⟨_,rfl⟩;have hbq:Below w.heap.size w wq:=by rw[<-hwq];exact A4 (Below.refl _ w) nq
 have hrq:AM g cap (ts.map .string) wq:=hr.block (hbq.block _ hr.lt);have hvq:AM vb vc (ps.map .string) wq:=hv.block (hbq.block _ hv.lt);rw[hwq];have HBQ:Hid (Below w.heap.size w wq):=hbq;clear hwq hr hv hbq;have hgq:=hrq.lt;have hcs:∀j u,(ts.map Value.string)[j]? =some u->wq.cell? ⟨g,j,none⟩=some u:=fun j u hj=>hrq.cell j u hj;have hvs:∀j u,(ps.map Value.string)[j]? =some u->wq.cell? ⟨vb,j,none⟩=some u:=fun j u hj=>hvq.cell j u hj;have hlt:(ts.map Value.string).length=i+1+d:=by rw[List.length_map];exact HI.out
 have hlp:(ps.map Value.string).length=1:=by rw[List.length_map];exact HM.out
 have hdl:((ts.map Value.string).drop (i+1)).length=d:=by rw[List.length_drop,hlt];omega
 have hN:∀j,j<cap->(wq.cell? ⟨g,j,none⟩).isSome=true:=fun j hj=>hrq.isS j hj;have hNf:∀j,wq.frozen? ⟨g,j,none⟩=false:=fun j=>hrq.free j;have hti:((ts.map Value.string).take i).length=i:=by rw[List.length_take,hlt];omega
 have hfl:((ts.take i++ps++ts.drop (i+1)).map Value.string)=(ts.map Value.string).take i++ps.map Value.string++(ts.map Value.string).drop (i+1):=by simp[List.map_take,List.map_drop]
 have el:i+1+d=((ts.take i++ps++ts.drop (i+1)).map Value.string).length:=by rw[hfl,List.length_append,List.length_append,hti,hlp,hdl]
 have hs4:=Hg Tryz.underlying85 AP B7 g (i+1+d) cap (i+1+d) (by omega) ((i:Int)+1+(d:Int)) (by omega);have hs5:=Dr Tryz.underlying85 AP B7 g (i+1+d) cap i (by omega) (by omega) (i:Nat) rfl;rw[show i+1+d-i=1+d by omega]at hs5;obtain⟨v6,hv6,hc6⟩:=(hrq.view (Nat.le_refl g)).cut (i+1+d) (i+1+d) (Nat.le_refl _) (by rw[hlt];exact Nat.le_refl _);rw[hlt]at hc6;have hs6:∀wx,(Instr.slice 85 (.slice (some ⟨g,0,none⟩) (i+1+d) cap) (some (.int .i64 ((i:Int)+1+(d:Int)))) none none).run Tryz.prog wx= .ok v6 wx:=fun wx=>((hc6 Tryz.underlying85 AP B7 ((i:Int)+1+(d:Int)) ((i:Int)+1+(d:Int)) (by omega) (by omega) wx).2.2 rfl);obtain⟨a6,c6,hw6,_⟩:=hv6.is;rw[show(List.take (i+1+d-(i+1+d)) (List.drop (i+1+d) (List.map Value.string ts))).length=0 by simp]at hw6;subst hw6
 have hcpA:∀ty,(Builtin.copy_ #[85,85] ty #[.slice (some ⟨g,i,none⟩) (1+d) (cap-i),.slice (some ⟨vb,0,none⟩) 1 vc]).run Tryz.prog wq= .ok (goInt (ps.map Value.string).length) (wq.setCells g i (ps.map Value.string)):=fun ty=>
  run_copy_cells wq 85 85 ty 9 g i (1+d) (cap-i) ⟨vb,0,none⟩ 1 vc (ps.map Value.string) Tryz.underlying85 B7 (by rw[hlp];simp only[Nat.min_def];split<;>omega)
   (fun j u hj=>by rw[A6,Nat.zero_add];exact hvs j u hj) (fun j hj=>hN _ (by omega)) (fun j hj=>hNf _) (Ct ps)
 rw[hlp]at hcpA;obtain⟨W2,hW2⟩:∃W2,wq.setCells g i (ps.map Value.string)=W2:=⟨_,rfl⟩;rw[hW2]at hcpA;have hN2:∀j,j<cap->(W2.cell? ⟨g,j,none⟩).isSome=true:=fun j hj=>by rw[<-hW2];exact isSome_setCells _ _ _ _ (fun q hq=>hN _ (by omega)) _ (hN j hj)
 have hcpB:(Builtin.copy_ #[85,85] 3 #[.slice (some ⟨g,i+1,none⟩) d (cap-(i+1)),.slice (some ⟨g,i+1,none⟩) d (cap-(i+1))]).run Tryz.prog W2.drew= .ok (goInt ((ts.map Value.string).drop (i+1)).length) (W2.drew.setCells g (i+1) ((ts.map Value.string).drop (i+1))):=
  run_copy_cells W2.drew 85 85 3 9 g (i+1) d (cap-(i+1)) ⟨g,i+1,none⟩ d (cap-(i+1)) ((ts.map Value.string).drop (i+1)) Tryz.underlying85 B7 (by rw[hdl];exact(Nat.min_self d).symm)
   (fun j u hj=>by
     rw[A6];show W2.cell? _=_;rw[<-hW2,World.cell?_setCells_out _ _ _ _ _ (fun _ _=> .inr (by rw[hlp];show i+1<=i+1+j;omega))];exact hcs (i+1+j) u (by rwa [List.getElem?_drop]at hj))
   (fun j hj=>hN2 _ (by omega)) (fun j hj=>by show W2.frozen? _=_;rw[<-hW2,World.frozen?_setCells];exact hNf _) (fun u hu=>Ct ts u (List.mem_of_mem_drop hu))
 rw[hdl]at hcpB
 have HFIN:Hid (Ao B (.slice (some ⟨g,0,none⟩) (i+1+d) cap) ((ts.take i++ps++ts.drop (i+1)).map Value.string) (W2.drew.setCells g (i+1) ((ts.map Value.string).drop (i+1)))):=by
  show Ao _ _ _ _;rw[el]at hroom ⊢;refine CV hB (by rw[A3];show g<W2.heap.size;rw[<-hW2,A3];exact hgq) hroom hcm (fun j hj=> ?_);rw[<-el]at hj hroom;rcases Nat.lt_or_ge j (i+1)with h1|h1
  ·rw[World.cell?_setCells_out _ _ _ _ _ (fun _ _=> .inl h1)]
   show W2.cell? _=_;rw[<-hW2];rcases Nat.lt_or_ge j i with h2|h2
   ·rw[World.cell?_setCells_out _ _ _ _ _ (fun _ _=> .inl h2),hcs j ((ts.map Value.string)[j]'(by omega)) (List.getElem?_eq_getElem _)]
    congr 1;simp only[hfl];rw[List.getElem_append_left (by rw[List.length_append,hti];omega),List.getElem_append_left (by rw[hti];omega),List.getElem_take]
   ·have h5:=World.cell?_setCells_in g (ps.map Value.string) i wq (fun q hq=>hN _ (by omega)) (j-i) (by omega)
    rw[show i+(j-i)=j by omega]at h5;rw[h5];congr 1;simp only[hfl];rw[List.getElem_append_left (by rw[List.length_append,hti];omega),List.getElem_append_right (by rw[hti];omega)];simp only[hti]
  ·have h5:=World.cell?_setCells_in g ((ts.map Value.string).drop (i+1)) (i+1) W2.drew (fun q hq=>hN2 _ (by omega)) (j-(i+1)) (by omega)
   rw[show i+1+(j-(i+1))=j by omega]at h5;rw[h5];congr 1;simp only[hfl];rw[List.getElem_append_right (by rw[List.length_append,hti];omega)];simp only[List.length_append,hti,hlp]
 have HOC:Hid (Aa (fun b=>B<=b) w (W2.drew.setCells g (i+1) ((ts.map Value.string).drop (i+1)))):=by
  have h7:Aa (fun b=>B<=b) w W2:=(Ab HBQ.out _).trans (by rw[<-hW2];exact Aa.setCells g _ _ _) (fun k e=> .inl (by show B<=k;omega));exact h7.drew.trans (Aa.setCells g _ _ _) (fun k e=> .inl (by show B<=k;omega))
 obtain⟨W3,hW3⟩:∃W3,W2.drew.setCells g (i+1) ((ts.map Value.string).drop (i+1))=W3:=⟨_,rfl⟩;rw[hW3]at hcpB HFIN HOC;have hgt:¬(cap:Int)<(i:Int)+1+(d:Int):=by omega
 have hw1:IntKind.i64.wrap ((i:Int)+1)=(i:Int)+1:=by rw[IntKind.wrap_i64];omega
 have hclr:∀ty wx,(Builtin.clear_ #[85] ty #[.slice a6 0 c6]).run Tryz.prog wx= .ok (.tuple #[]) wx:=fun ty wx=>by
  cases a6<;>simp[Builtin.clear_,run_underlying Tryz.underlying85]
 clear hW3 hW2 hN hNf hN2 hcs hvs hrq hvq hlt hfl hti el hc6 hv6 hcm hgq hlp hdl
 go_wp2_with (first
  |(at_builtin;refine wpList_copy_runI _ rfl _ _ 85 85 rfl _ _ rfl rfl (hcpA _) ?_))
 go_region_law (fail)
 go_wp2;go_ret;exact⟨_,rfl,HFIN.out,HOC.out⟩
theorem JQ {B g cap vb vc i d:Nat} {ts ps:List ByteArray} (w:World) (hr:AM g cap (ts.map .string) w) (hB:B<=g) (hn:ts.length<=1000) (hi:ts.length=i+1+d) (hd:0<d) (hm:ps.length=2) (hv:AM vb vc (ps.map .string) w) (hvg:g≠vb) (hroom:i+2+d<=cap):
  Calls Tryz.prog 176 #[.slice (some ⟨g,0,none⟩) ts.length cap,.int .i64 (i:Nat),.int .i64 ((i+1:Nat):Int),.slice (some ⟨vb,0,none⟩) ps.length vc] w fun e w'=>∃v',e= .returned v'/\Ao B v' ((ts.take i++ps++ts.drop (i+1)).map Value.string) w'/\Aa (fun b=>B<=b) w w':=by
 rw[hi,hm];have hcm:=hr.cm;have hs1:=GF Tryz.underlying85 AP B7 g (i+1+d) cap i (i+1) (by omega) (by omega) (by omega) (i:Nat) ((i:Int)+1) rfl (by omega);have hs2:=Hg Tryz.underlying85 AP B7 g (i+1+d) cap i (by omega) (i:Nat) rfl;have hs3:=Dr Tryz.underlying85 AP B7 g (i+1+d) cap (i+1) (by omega) (by omega) ((i:Int)+1) (by omega);have e1:i+1+d-(i+1)=d:=by omega
 rw[e1]at hs3;have hne:¬((i:Int)=(i:Int)+1):=by omega
 have hne2:¬((i:Int)+1=(i:Int)+1+(d:Int)):=by omega
 have hib:i<=1000:=by omega
 have hdb:d<=1000:=by omega
 have HI:Hid (ts.length=i+1+d):=hi;have HM:Hid (ps.length=2):=hm;clear hi e1 hm;go_enter Tryz.func176,Tryz.ntmps176;go_wp2_with fail;go_quiet (fail);obtain⟨wq,hwq⟩:∃wq,w.drewN nq=wq:=⟨_,rfl⟩;have hbq:Below w.heap.size w wq:=by rw[<-hwq];exact A4 (Below.refl _ w) nq
 have hrq:AM g cap (ts.map .string) wq:=hr.block (hbq.block _ hr.lt);have hvq:AM vb vc (ps.map .string) wq:=hv.block (hbq.block _ hv.lt);rw[hwq];have HBQ:Hid (Below w.heap.size w wq):=hbq;clear hwq hr hv hbq;have hgq:=hrq.lt;have hcs:∀j u,(ts.map Value.string)[j]? =some u->wq.cell? ⟨g,j,none⟩=some u:=fun j u hj=>hrq.cell j u hj;have hvs:∀j u,(ps.map Value.string)[j]? =some u->wq.cell? ⟨vb,j,none⟩=some u:=fun j u hj=>hvq.cell j u hj;have hlt:(ts.map Value.string).length=i+1+d:=by rw[List.length_map];exact HI.out
 have hlp:(ps.map Value.string).length=2:=by rw[List.length_map];exact HM.out
 have hdl:((ts.map Value.string).drop (i+1)).length=d:=by rw[List.length_drop,hlt];omega
 have hN:∀j,j<cap->(wq.cell? ⟨g,j,none⟩).isSome=true:=fun j hj=>hrq.isS j hj;have hNf:∀j,wq.frozen? ⟨g,j,none⟩=false:=fun j=>hrq.free j;have hti:((ts.map Value.string).take i).length=i:=by rw[List.length_take,hlt];omega
 have hfl:((ts.take i++ps++ts.drop (i+1)).map Value.string)=(ts.map Value.string).take i++ps.map Value.string++(ts.map Value.string).drop (i+1):=by simp[List.map_take,List.map_drop]
 have el:i+2+d=((ts.take i++ps++ts.drop (i+1)).map Value.string).length:=by rw[hfl,List.length_append,List.length_append,hti,hlp,hdl]
 have hs4:=Hg Tryz.underlying85 AP B7 g (i+1+d) cap (i+2+d) (by omega) ((i:Int)+2+(d:Int)) (by omega);have hs5:=Dr Tryz.underlying85 AP B7 g (i+2+d) cap i (by omega) (by omega) (i:Nat) rfl;rw[show i+2+d-i=2+d by omega]at hs5;have hs6:=Dr Tryz.underlying85 AP B7 g (i+2+d) cap (i+2) (by omega) (by omega) ((i:Int)+2) (by omega);rw[show i+2+d-(i+2)=d by omega]at hs6
 have hov:∀wx,wx.heap=wq.heap->(callFunc 207 #[.slice (some ⟨g,i+2,none⟩) d (cap-(i+2)),.slice (some ⟨vb,0,none⟩) 2 vc]).run Tryz.prog wx= .ok (.value (.bool false)) wx:=fun wx hx=>by
  have e1:wx.shape? g=wq.shape? g:=by simp only[World.shape?,hx]
  have e2:wx.shape? vb=wq.shape? vb:=by simp only[World.shape?,hx]
  have e3:∀a,wx.frozen? a=wq.frozen? a:=fun a=>by simp only[World.frozen?,hx]
  rw[run_callFunc_extern Tryz.func207 (by kernel_rfl) (by kernel_rfl) (by kernel_rfl) (e:=Extern.SlicesOverlaps.overlaps #[85,85] #[4]) (by kernel_rfl),
   Lib.run_overlaps_apart wx 85 4 9 Tryz.underlying85 1 (fun w=>by simp[Tryz.sizeOf9]) ⟨g,i+2,none⟩ ⟨vb,0,none⟩ d (cap-(i+2)) 2 vc hvg 9 9 cap vc (by rw[e1];exact hrq.shape) (by rw[e2];exact hvq.shape) (by have:=hvq.le;omega) (by rw[e3];exact hNf _) (by rw[e3];exact hNf _)]
  rfl
 have hov1:=hov wq rfl
 have hcpB:(Builtin.copy_ #[85,85] 3 #[.slice (some ⟨g,i+2,none⟩) d (cap-(i+2)),.slice (some ⟨g,i+1,none⟩) d (cap-(i+1))]).run Tryz.prog wq.drew= .ok (goInt ((ts.map Value.string).drop (i+1)).length) (wq.drew.setCells g (i+2) ((ts.map Value.string).drop (i+1))):=
  run_copy_cells wq.drew 85 85 3 9 g (i+2) d (cap-(i+2)) ⟨g,i+1,none⟩ d (cap-(i+1)) ((ts.map Value.string).drop (i+1)) Tryz.underlying85 B7 (by rw[hdl];exact(Nat.min_self d).symm)
   (fun j u hj=>by rw[A6];exact hcs (i+1+j) u (by rwa [List.getElem?_drop]at hj))
   (fun j hj=>hN _ (by omega)) (fun j hj=>hNf _) (fun u hu=>Ct ts u (List.mem_of_mem_drop hu))
 rw[hdl]at hcpB;obtain⟨W2,hW2⟩:∃W2,wq.drew.setCells g (i+2) ((ts.map Value.string).drop (i+1))=W2:=⟨_,rfl⟩;rw[hW2]at hcpB;have hN2:∀j,j<cap->(W2.cell? ⟨g,j,none⟩).isSome=true:=fun j hj=>by rw[<-hW2];exact isSome_setCells g _ _ wq.drew (fun q hq=>hN _ (by omega)) _ (hN j hj)
 have hcpA:∀ty,(Builtin.copy_ #[85,85] ty #[.slice (some ⟨g,i,none⟩) (2+d) (cap-i),.slice (some ⟨vb,0,none⟩) 2 vc]).run Tryz.prog W2= .ok (goInt (ps.map Value.string).length) (W2.setCells g i (ps.map Value.string)):=fun ty=>
  run_copy_cells W2 85 85 ty 9 g i (2+d) (cap-i) ⟨vb,0,none⟩ 2 vc (ps.map Value.string) Tryz.underlying85 B7 (by rw[hlp];simp only[Nat.min_def];split<;>omega)
   (fun j u hj=>by rw[A6,Nat.zero_add,<-hW2,World.cell?_setCells_out _ _ _ _ _ (fun h _=>absurd h.symm hvg)];exact hvs j u hj) (fun j hj=>hN2 _ (by omega)) (fun j hj=>by rw[<-hW2,World.frozen?_setCells];exact hNf _) (Ct ps)
 rw[hlp]at hcpA
 have HFIN:Hid (Ao B (.slice (some ⟨g,0,none⟩) (i+2+d) cap) ((ts.take i++ps++ts.drop (i+1)).map Value.string) (W2.setCells g i (ps.map Value.string))):=by
  show Ao _ _ _ _;rw[el]at hroom ⊢;refine CV hB (by rw[A3,<-hW2,A3];exact hgq) hroom hcm (fun j hj=> ?_);rw[<-el]at hj hroom;rcases Nat.lt_or_ge j i with h2|h2
  ·rw[World.cell?_setCells_out _ _ _ _ _ (fun _ _=> .inl h2),<-hW2,World.cell?_setCells_out _ _ _ _ _ (fun _ _=> .inl (by show j<i+2;omega))]
   show wq.cell? _=_;rw[hcs j ((ts.map Value.string)[j]'(by omega)) (List.getElem?_eq_getElem _)];congr 1;simp only[hfl];rw[List.getElem_append_left (by rw[List.length_append,hti];omega),List.getElem_append_left (by rw[hti];omega),List.getElem_take]
  ·rcases Nat.lt_or_ge j (i+2)with h1|h1
   ·have h5:=World.cell?_setCells_in g (ps.map Value.string) i W2 (fun q hq=>hN2 _ (by omega)) (j-i) (by omega)
    rw[show i+(j-i)=j by omega]at h5;rw[h5];congr 1;simp only[hfl];rw[List.getElem_append_left (by rw[List.length_append,hti];omega),List.getElem_append_right (by rw[hti];omega)];simp only[hti]
   ·rw[World.cell?_setCells_out _ _ _ _ _ (fun _ _=> .inr (by rw[hlp];exact h1)),<-hW2]
    have h5:=World.cell?_setCells_in g ((ts.map Value.string).drop (i+1)) (i+2) wq.drew (fun q hq=>hN _ (by omega)) (j-(i+2)) (by omega);rw[show i+2+(j-(i+2))=j by omega]at h5;rw[h5];congr 1;simp only[hfl];rw[List.getElem_append_right (by rw[List.length_append,hti];omega)];simp only[List.length_append,hti,hlp]
 have HOC:Hid (Aa (fun b=>B<=b) w (W2.setCells g i (ps.map Value.string))):=by
  have h7:Aa (fun b=>B<=b) w W2:=(Ab HBQ.out _).drew.trans (by rw[<-hW2];exact Aa.setCells g _ _ _) (fun k e=> .inl (by show B<=k;omega));exact h7.trans (Aa.setCells g _ _ _) (fun k e=> .inl (by show B<=k;omega))
 obtain⟨W3,hW3⟩:∃W3,W2.setCells g i (ps.map Value.string)=W3:=⟨_,rfl⟩;rw[hW3]at hcpA HFIN HOC;have hgt:¬(cap:Int)<(i:Int)+2+(d:Int):=by omega
 have hle2:¬(i:Int)+2<=(i:Int)+1:=by omega
 have hw1:IntKind.i64.wrap ((i:Int)+2)=(i:Int)+2:=by rw[IntKind.wrap_i64];omega
 clear hW3 hW2 hN hNf hN2 hcs hvs hrq hvq hlt hfl hti el hcm hgq hlp hdl hov hvg
 go_wp2_with (simp only[hov1])
 go_region_law (fail)
 go_wp2_with (first
  |(at_builtin;refine wpList_copy_runI _ rfl _ _ 85 85 rfl _ _ rfl rfl (hcpA _) ?_))
 go_ret;exact⟨_,rfl,HFIN.out,HOC.out⟩
end
end Go.Proofs.YtihnldkgeelehaaGreatDoor
