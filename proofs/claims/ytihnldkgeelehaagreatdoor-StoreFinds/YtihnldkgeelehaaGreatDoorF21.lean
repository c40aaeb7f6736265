/- StoreFinds: part 21. -/
import Derived.Test.YtihnldkgeelehaaGreatDoorF20
set_option maxRecDepth 100000
set_option maxHeartbeats 4000000
namespace Go.Proofs.YtihnldkgeelehaaGreatDoor
section
open Go.RowKit Go.Maps
theorem Iz {B:Nat} {vi:Value} {l:List ByteArray} (x:ByteArray) (w:World) (h:Cp B vi l w):Calls Tryz.prog 44 #[vi,.string x] w fun e w'=>e= .returned (.bool (Lib.containsS l x))/\w'=w:=by
 by_cases h0:l.length=0
 ·obtain rfl:=List.length_eq_zero_iff.1 h0
  obtain⟨a,c,e⟩:=Aj h;rw[e];exact(Tryz.slices_Contains_string_empty a c x w).mono (fun e w' ⟨h1,h2⟩=>⟨h1,h2⟩)
 ·obtain⟨g,cap,rfl,_,_⟩:=World.ownsRow.form h (by omega)
  have hm:l.length<=9223372036854775807:=by
   rcases h.2 with⟨e,_⟩|⟨_,_,_,e,_,_,h4,h5,_⟩
   ·cases e
   ·cases e;simp only[maxLen]at h5;omega
  have:=Tryz.slices_Contains_string g 0 l.length cap l x w (Nat.le_refl _) hm (fun j hj=>by
   rw[Nat.zero_add,World.ownsRow.cellAt h j (by omega),List.getElem?_map,List.getElem?_eq_getElem hj,List.getD_eq_getElem?_getD,List.getElem?_eq_getElem hj];rfl)
  rw[List.take_length]at this;exact this
theorem Ea.drew {B:Nat} {v:Value} {l:List UInt8} {w:World} (h:Ea B v l w):Ea B v l w.drew:=World.ownsRow.drew h
def CY (id n:Nat):List UInt8:=[Aq (id:Int),0,0,0,0,0,0,0,Aq (n:Int)]
theorem UQ:∃i0:TypeInfo,Tryz.prog.info? 5=some i0/\i0.zero=some (.int .u8 0)/\i0.size=1/\i0.bytes=1:=by
 have h:(Tryz.prog.info? 5).map (fun i=>(i.zero,i.size,i.bytes))=some (some (.int .u8 0),1,1):=by kernel_rfl
 cases hq:Tryz.prog.info? 5 with
 |none=>rw[hq]at h;simp at h
 |some i=>rw[hq]at h;simp at h;exact⟨i,rfl,h.1,h.2.1,h.2.2⟩
structure Hp (w0:World) (xs:List Value) (b:Value) (l:List UInt8) (w:World):Prop where
 row:Ea (w0.heap.size+2) b l w
 box:Ac w0.heap.size xs w
 res:Ac (w0.heap.size+1) [.string ⟨#[]⟩,.string ⟨#[]⟩] w
 below:Below w0.heap.size w0 w
theorem Hp.step {w wr w':World} {xs:List Value} {b v':Value} {l:List UInt8} (h:Hp w xs b l wr) (x:UInt8) (hO:w'.ownsRow (w.heap.size+2) 5 1 v' (l.length+1) (u8s l++[.int .u8 (x.toNat:Nat)])) (hG:(wr.alloc (.cells #[.int .u8 (x.toNat:Nat)] 5)).grownBy w' b.ownBlock):Hp w xs v' (l++[x]) w':=by
 have hn:∀k,b.ownBlock=some k->w.heap.size+2<=k:=fun k e=>(World.ownsRow.lt h.row k e).1;have hb:Below wr.heap.size wr (wr.alloc (.cells #[.int .u8 (x.toNat:Nat)] 5)):=(Below.refl _ _).alloc (Nat.le_refl _) _;have h1:=h.box.below hb;have h2:=h.res.below hb;refine⟨?_,h1.block (hG.block _ h1.lt (fun e=>by have:=hn _ e.symm;omega)),h2.block (hG.block _ h2.lt (fun e=>by have:=hn _ e.symm;omega)),(h.below.alloc h.below.size _).grown hG (by have:=h.below.size;simp;omega) (fun k e=>by have:=hn k e;omega)⟩;show World.ownsRow _ _ _ _ _ _ _;rw[List.length_append,show u8s (l++[x])=u8s l++u8s [x]from List.map_append];exact hO
set_option maxHeartbeats 1000000
theorem G8 (nm:ByteArray) (id n:Nat) (hid:id<256) (hn:n<256) (hnm:nm.size<=1000) (a1 a2:Option Addr) (l1 c1 l2 c2:Nat) (w:World):
  Calls Tryz.prog 68 #[.agg #[.int .i64 (id:Nat),.int .i64 (n:Nat),.string nm,.slice a1 l1 c1,.slice a2 l2 c2]] w fun e w'=>e= .returned (.agg #[.string (Ap nm),.string (AH id n)])/\Below w.heap.size w w':=by
 have hw:(id:Int) % 256=(id:Int):=by omega
 obtain⟨W1,hW1⟩:∃W1,(w.alloc (.cells #[.int .i64 (id:Nat),.int .i64 (n:Nat),.string nm,.slice a1 l1 c1,.slice a2 l2 c2] 92)).alloc (.cells #[.string ⟨#[]⟩,.string ⟨#[]⟩] 126)=W1:=⟨_,rfl⟩;have hs1:W1.heap.size=w.heap.size+2:=by rw[<-hW1];simp
 have hb1:Below w.heap.size w W1:=by rw[<-hW1];exact((Below.refl _ w).alloc (Nat.le_refl _) _).alloc (by simp) _
 have hv1:Ac w.heap.size [.int .i64 (id:Nat),.int .i64 (n:Nat),.string nm,.slice a1 l1 c1,.slice a2 l2 c2] W1:=by rw[<-hW1];exact(Ac.new w #[.int .i64 (id:Nat),.int .i64 (n:Nat),.string nm,.slice a1 l1 c1,.slice a2 l2 c2] 92 (by simp)).below ((Below.refl _ _).alloc (Nat.le_refl _) _)
 have hv2:Ac (w.heap.size+1) [.string ⟨#[]⟩,.string ⟨#[]⟩] W1:=by
  have:=Ac.new (w.alloc (.cells #[.int .i64 (id:Nat),.int .i64 (n:Nat),.string nm,.slice a1 l1 c1,.slice a2 l2 c2] 92)) #[.string ⟨#[]⟩,.string ⟨#[]⟩] 126 (by simp);rw[World.size_alloc,hW1]at this;exact this
 have HP:Hid (Hp w [.int .i64 (id:Nat),.int .i64 (n:Nat),.string nm,.slice a1 l1 c1,.slice a2 l2 c2] (.slice (some ⟨w.heap.size+2,0,none⟩) 1 1) ((CY id n).take 1) (W1.alloc (.cells #[.int .u8 (id:Nat)] 5))):=by
  have hb:Below W1.heap.size W1 (W1.alloc (.cells #[.int .u8 (id:Nat)] 5)):=(Below.refl _ _).alloc (Nat.le_refl _) _;refine⟨?_,hv1.below hb,hv2.below hb,hb1.trans (hb.mono hb1.size)⟩;have:=World.ownsRow_lit (base:=w.heap.size+2) (e:=5) (size:=1) W1 #[.int .u8 (id:Nat)] 1 (by omega) (by decide) rfl;show World.ownsRow _ _ _ _ _ _ _
  have e:u8s ((CY id n).take 1)=[.int .u8 (id:Nat)]:=by
   show [Value.int .u8 ((Aq (id:Int)).toNat:Nat)]=_;rw[BG hid]
  rw[e,<-hs1];rw[<-hs1]at this;exact this
 obtain⟨q0,q1,q2,q3,q4⟩:=hv1.c5;obtain⟨i0,hi,hz0,hz1,hz2⟩:=UQ;clear hv1 hv2 hb1;go_enter Tryz.func68,Tryz.ntmps68;go_wp2_with fail;clear q0 q1 q2 q3 q4 hW1;go_loopw [3,4] (fun b s wr=>∃j:Nat,j<=8/\s= .int .i64 (56-8 * (j:Int))/\Hid (Hp w [.int .i64 (id:Nat),.int .i64 (n:Nat),.string nm,.slice a1 l1 c1,.slice a2 l2 c2] b ((CY id n).take (j+1)) wr)) (fun _ s _=>(intOf s+9).toNat)
 case atStart=>exact⟨0,Nat.zero_le _,rfl,HP⟩
 case round=>
  clear HP;obtain⟨j,hj,rfl,HP⟩:=hrel;obtain⟨q0,q1,q2,q3,q4⟩:=HP.out.box.c5;have hcase:j=0\/j=1\/j=2\/j=3\/j=4\/j=5\/j=6\/j=7\/j=8:=by omega
  rcases hcase with rfl|rfl|rfl|rfl|rfl|rfl|rfl|rfl|rfl
  ·have HO2:Hid _:=World.ownsRow.alloc HP.out.row (.cells #[.int .u8 0] 5)
   have hll:(List.take (0+1) (CY id n)).length=1:=rfl;have hz:(n:Int) / 72057594037927936=0:=by omega
   go_wp2_with (at_builtin;refine wpList_append_own _ rfl _ _ 199 rfl (w.heap.size+2) 5 i0 (.int .u8 0) 1 1 Tryz.underlying199 hi hz0 hz1 hz2 rfl (by decide) _ _ _ rfl HO2.out ⟨wr.heap.size,0,none⟩ 1 1 [.int .u8 0] rfl rfl (Bs wr _ 5) (by intro u hu;simp at hu;subst hu;rfl) (by rw[hll];decide) (by rw[hll];decide) (by have:=HP.out.res.lt;rw[World.size_alloc];omega) ?_;intro v' w' hO hG hN)
   exact⟨⟨1,by decide,by rfl,HP.out.step 0 hO hG⟩,by decide⟩
  ·have HO2:Hid _:=World.ownsRow.alloc HP.out.row (.cells #[.int .u8 0] 5)
   have hll:(List.take (1+1) (CY id n)).length=2:=rfl;have hz:(n:Int) / 281474976710656=0:=by omega
   go_wp2_with (at_builtin;refine wpList_append_own _ rfl _ _ 199 rfl (w.heap.size+2) 5 i0 (.int .u8 0) 1 1 Tryz.underlying199 hi hz0 hz1 hz2 rfl (by decide) _ _ _ rfl HO2.out ⟨wr.heap.size,0,none⟩ 1 1 [.int .u8 0] rfl rfl (Bs wr _ 5) (by intro u hu;simp at hu;subst hu;rfl) (by rw[hll];decide) (by rw[hll];decide) (by have:=HP.out.res.lt;rw[World.size_alloc];omega) ?_;intro v' w' hO hG hN)
   exact⟨⟨2,by decide,by rfl,HP.out.step 0 hO hG⟩,by decide⟩
  ·have HO2:Hid _:=World.ownsRow.alloc HP.out.row (.cells #[.int .u8 0] 5)
   have hll:(List.take (2+1) (CY id n)).length=3:=rfl;have hz:(n:Int) / 1099511627776=0:=by omega
   go_wp2_with (at_builtin;refine wpList_append_own _ rfl _ _ 199 rfl (w.heap.size+2) 5 i0 (.int .u8 0) 1 1 Tryz.underlying199 hi hz0 hz1 hz2 rfl (by decide) _ _ _ rfl HO2.out ⟨wr.heap.size,0,none⟩ 1 1 [.int .u8 0] rfl rfl (Bs wr _ 5) (by intro u hu;simp at hu;subst hu;rfl) (by rw[hll];decide) (by rw[hll];decide) (by have:=HP.out.res.lt;rw[World.size_alloc];omega) ?_;intro v' w' hO hG hN)
   exact⟨⟨3,by decide,by rfl,HP.out.step 0 hO hG⟩,by decide⟩
  ·have HO2:Hid _:=World.ownsRow.alloc HP.out.row (.cells #[.int .u8 0] 5)
   have hll:(List.take (3+1) (CY id n)).length=4:=rfl;have hz:(n:Int) / 4294967296=0:=by omega
   go_wp2_with (at_builtin;refine wpList_append_own _ rfl _ _ 199 rfl (w.heap.size+2) 5 i0 (.int .u8 0) 1 1 Tryz.underlying199 hi hz0 hz1 hz2 rfl (by decide) _ _ _ rfl HO2.out ⟨wr.heap.size,0,none⟩ 1 1 [.int .u8 0] rfl rfl (Bs wr _ 5) (by intro u hu;simp at hu;subst hu;rfl) (by rw[hll];decide) (by rw[hll];decide) (by have:=HP.out.res.lt;rw[World.size_alloc];omega) ?_;intro v' w' hO hG hN)
   exact⟨⟨4,by decide,by rfl,HP.out.step 0 hO hG⟩,by decide⟩
  ·have HO2:Hid _:=World.ownsRow.alloc HP.out.row (.cells #[.int .u8 0] 5)
   have hll:(List.take (4+1) (CY id n)).length=5:=rfl;have hz:(n:Int) / 16777216=0:=by omega
   go_wp2_with (at_builtin;refine wpList_append_own _ rfl _ _ 199 rfl (w.heap.size+2) 5 i0 (.int .u8 0) 1 1 Tryz.underlying199 hi hz0 hz1 hz2 rfl (by decide) _ _ _ rfl HO2.out ⟨wr.heap.size,0,none⟩ 1 1 [.int .u8 0] rfl rfl (Bs wr _ 5) (by intro u hu;simp at hu;subst hu;rfl) (by rw[hll];decide) (by rw[hll];decide) (by have:=HP.out.res.lt;rw[World.size_alloc];omega) ?_;intro v' w' hO hG hN)
   exact⟨⟨5,by decide,by rfl,HP.out.step 0 hO hG⟩,by decide⟩
  ·have HO2:Hid _:=World.ownsRow.alloc HP.out.row (.cells #[.int .u8 0] 5)
   have hll:(List.take (5+1) (CY id n)).length=6:=rfl;have hz:(n:Int) / 65536=0:=by omega
   go_wp2_with (at_builtin;refine wpList_append_own _ rfl _ _ 199 rfl (w.heap.size+2) 5 i0 (.int .u8 0) 1 1 Tryz.underlying199 hi hz0 hz1 hz2 rfl (by decide) _ _ _ rfl HO2.out ⟨wr.heap.size,0,none⟩ 1 1 [.int .u8 0] rfl rfl (Bs wr _ 5) (by intro u hu;simp at hu;subst hu;rfl) (by rw[hll];decide) (by rw[hll];decide) (by have:=HP.out.res.lt;rw[World.size_alloc];omega) ?_;intro v' w' hO hG hN)
   exact⟨⟨6,by decide,by rfl,HP.out.step 0 hO hG⟩,by decide⟩
  ·have HO2:Hid _:=World.ownsRow.alloc HP.out.row (.cells #[.int .u8 0] 5)
   have hll:(List.take (6+1) (CY id n)).length=7:=rfl;have hz:(n:Int) / 256=0:=by omega
   go_wp2_with (at_builtin;refine wpList_append_own _ rfl _ _ 199 rfl (w.heap.size+2) 5 i0 (.int .u8 0) 1 1 Tryz.underlying199 hi hz0 hz1 hz2 rfl (by decide) _ _ _ rfl HO2.out ⟨wr.heap.size,0,none⟩ 1 1 [.int .u8 0] rfl rfl (Bs wr _ 5) (by intro u hu;simp at hu;subst hu;rfl) (by rw[hll];decide) (by rw[hll];decide) (by have:=HP.out.res.lt;rw[World.size_alloc];omega) ?_;intro v' w' hO hG hN)
   exact⟨⟨7,by decide,by rfl,HP.out.step 0 hO hG⟩,by decide⟩
  ·have HO2:Hid _:=World.ownsRow.alloc HP.out.row (.cells #[.int .u8 (n:Nat)] 5)
   have hll:(List.take (7+1) (CY id n)).length=8:=rfl;have hz:(n:Int) % 256=(n:Int):=by omega
   go_wp2_with (at_builtin;refine wpList_append_own _ rfl _ _ 199 rfl (w.heap.size+2) 5 i0 (.int .u8 0) 1 1 Tryz.underlying199 hi hz0 hz1 hz2 rfl (by decide) _ _ _ rfl HO2.out ⟨wr.heap.size,0,none⟩ 1 1 [.int .u8 (n:Nat)] rfl rfl (Bs wr _ 5) (by intro u hu;simp at hu;subst hu;rfl) (by rw[hll];decide) (by rw[hll];decide) (by have:=HP.out.res.lt;rw[World.size_alloc];omega) ?_;intro v' w' hO hG hN)
   exact⟨⟨8,by decide,by rfl,HP.out.step (Aq (n:Int)) (by rw[BG hn];exact hO) (by rw[BG hn];exact hG)⟩,by decide⟩
  ·have hcv:(convert 199 9 u3).run Tryz.prog wr.drew= .ok (.string (AH id n)) wr.drew:=Fu (l:=CY id n) (Ea.drew HP.out.row) (by simp[CY])
   have S0:Hid (wr.drew.cell? ⟨w.heap.size,2,none⟩=some (.string nm)/\(convert 199 9 u3).run Tryz.prog wr.drew= .ok (.string (AH id n)) wr.drew):=⟨q2,hcv⟩;have f0:=HP.out.res.free 0;have f1:=HP.out.res.free 1;have d0:=HP.out.res.cell 0 (by simp);have d1:=HP.out.res.cell 1 (by simp);clear q0 q1 q2 q3 q4 hcv;go_wp2_with fail;refine BZ (S:=fun wx=>wx.cell? ⟨w.heap.size,2,none⟩=some (.string nm)/\(convert 199 9 u3).run Tryz.prog wx= .ok (.string (AH id n)) wx) (js:=7) (by kernel_rfl) (S0.out) ?_;intro g0;refine Ad (i:=0) (oi:={dst:=some 21,op:=Op.fieldAddr 92 (Operand.tmp 1) 2,type:=0,pos:= "pair.go:41",after:= #[],guard:=none}) (v:= .pointer (some ⟨w.heap.size,2,none⟩)) rfl (by kernel_rfl) (by kernel_rfl) (by kernel_rfl) (fun _ _ _ h=>h) (by decide) (by kernel_rfl) (Or.inl ⟨by rfl,fun wx _=>by go_simp⟩) g0 ?_;simp only[Act.put,List.setIfInBounds_toArray,List.set_cons_zero,List.set_cons_succ];refine Ad (i:=1) (oi:={dst:=some 22,op:=Op.fieldAddr 87 (Operand.tmp 21) 0,type:=0,pos:= "pair.go:41",after:= #[{on:=0,ground:=Ground.data}],guard:=none}) (v:= .pointer (some ⟨w.heap.size,2,none⟩)) rfl (by kernel_rfl) (by kernel_rfl) (by kernel_rfl) (fun _ _ _ h=>h) (by decide) (by kernel_rfl) (Or.inl ⟨by rfl,fun wx _=>by go_simp⟩) g0 ?_;simp only[Act.put,List.setIfInBounds_toArray,List.set_cons_zero,List.set_cons_succ];refine Ad (i:=2) (oi:={dst:=some 23,op:=Op.load 9 (Operand.tmp 22),type:=9,pos:= "pair.go:41",after:= #[{on:=1,ground:=Ground.data}],guard:=none}) (v:= .string nm) rfl (by kernel_rfl) (by kernel_rfl) (by kernel_rfl) (fun _ _ _ h=>h) (by decide) (by kernel_rfl) (Or.inl ⟨by rfl,fun wx h=>by have h8:=h.1;go_simp⟩) g0 ?_;simp only[Act.put,List.setIfInBounds_toArray,List.set_cons_zero,List.set_cons_succ];refine Ad (i:=4) (oi:={dst:=some 25,op:=Op.move (Operand.tmp 3),type:=199,pos:= "pair.go:41",after:= #[],guard:=none}) (v:=u3) rfl (by kernel_rfl) (by kernel_rfl) (by kernel_rfl) (fun _ _ _ h=>h) (by decide) (by kernel_rfl) (Or.inl ⟨by rfl,fun wx _=>by go_simp⟩) g0 ?_;simp only[Act.put,List.setIfInBounds_toArray,List.set_cons_zero,List.set_cons_succ];refine Ad (i:=5) (oi:={dst:=some 26,op:=Op.convert 199 9 (Operand.tmp 25),type:=9,pos:= "pair.go:41",after:= #[{on:=4,ground:=Ground.data}],guard:=none}) (v:= .string (AH id n)) rfl (by kernel_rfl) (by kernel_rfl) (by kernel_rfl) (fun _ _ _ h=>h) (by decide) (by kernel_rfl) (Or.inl ⟨by rfl,fun wx h=>by have h8:=h.2;go_simp⟩) g0 ?_;simp only[Act.put,List.setIfInBounds_toArray,List.set_cons_zero,List.set_cons_succ];refine AW (i:=3) (o:={dst:=some 24,op:=Op.call {callee:=Callee.value (Operand.func 61),args:= #[Operand.tmp 23],argTypes:= #[9]},type:=9,pos:= "pair.go:41",after:= #[{on:=2,ground:=Ground.data}],guard:=none}) (by kernel_rfl) rfl (by decide) (by rfl) (fun K hK=> ?_)
   go_simp
   refine(Et nm (by omega) _).mono ?_;rintro _ w9 ⟨rfl,h9⟩;obtain rfl:=h9.symm;clear h9;refine hK.out _ _ (g0) (fun g1=> ?_);clear hK K
   try simp only[Act.put,List.setIfInBounds_toArray,List.set_cons_zero,List.set_cons_succ]
   refine Ad (i:=6) (oi:={dst:=some 27,op:=Op.build 126 #[(0,Operand.tmp 24),(1,Operand.tmp 26)],type:=126,pos:= "pair.go:41",after:= #[{on:=3,ground:=Ground.data},{on:=5,ground:=Ground.data}],guard:=none}) (v:= .agg #[.string (Ap nm),.string (AH id n)]) rfl (by kernel_rfl) (by kernel_rfl) (by kernel_rfl) (fun _ _ _ h=>h) (by decide) (by kernel_rfl) (Or.inl ⟨by rfl,fun wx _=>by go_simp⟩) g1 ?_;simp only[Act.put,List.setIfInBounds_toArray,List.set_cons_zero,List.set_cons_succ];refine Di (o:={dst:=none,op:=Op.store 126 (Operand.tmp 2) (Operand.tmp 27),type:=0,pos:= "pair.go:41",after:= #[{on:=6,ground:=Ground.data},{on:=3,ground:=Ground.chain},{on:=0,ground:=Ground.phase},{on:=1,ground:=Ground.phase},{on:=2,ground:=Ground.phase},{on:=3,ground:=Ground.phase},{on:=4,ground:=Ground.phase},{on:=5,ground:=Ground.phase},{on:=6,ground:=Ground.phase}],guard:=none}) (by kernel_rfl) (by kernel_rfl) rfl (by rfl) (fun K hK=> ?_)
   go_simp
   refine hK.out _ _ ?_;clear hK K
   try simp only[Act.put,List.setIfInBounds_toArray,List.set_cons_zero,List.set_cons_succ]
   go_wp2;exact bodyPost_ret (v:= .agg #[.string (Ap nm),.string (AH id n)]) (Ax Tryz.results68 _ _ _ rfl (LD ((HP.out.res.drew.set 0 _).set 1 _))) rfl ⟨rfl,(HP.out.below.drew.setCell (Nat.le_succ _) _).setCell (Nat.le_succ _) _⟩
end
end Go.Proofs.YtihnldkgeelehaaGreatDoor
