/- MatchFinds: part 3. -/
import Derived.Test.YtgfldnaahojnlaaGreatDoorF02
import Derived.Shelf.Abstract
import Derived.Laws.IdiomStrings
import Derived.Handy
import Derived.Deep.AppendLies
import Derived.Laws.OwnMore
set_option maxRecDepth 100000
set_option maxHeartbeats 4000000
namespace Go.Proofs.YtgfldnaahojnlaaGreatDoor
section
open Go.RowKit
structure Af (B:Nat) (v:Value) (wr:World):Prop where
 cell:wr.cell? ⟨B,0,none⟩=some v
 free:wr.frozen? ⟨B,0,none⟩=false
section
variable {w0 wr wx:World} {B:Nat} {v u:Value}
theorem Af.lt (h:Af B v wr):B<wr.heap.size:=World.block_lt_of_cell? wr _ h.cell
theorem Af.block (h:Af B v wr) (hb:wx.heap[B]? =wr.heap[B]?):Af B v wx:=by
 refine⟨?_,?_⟩
 ·have:=h.cell;simp only[World.cell?]at this ⊢;rw[hb];exact this
 ·have:=h.free;simp only[World.frozen?]at this ⊢;rw[hb];exact this
theorem Af.below (h:Af B v wr) (hb:Below wr.heap.size wr wx):Af B v wx:=h.block (hb.block _ h.lt)
theorem Af.drew (h:Af B v wr):Af B v wr.drew:=h.block rfl
theorem Af.set (h:Af B v wr) (u:Value):Af B u (wr.setCell ⟨B,0,none⟩ u):=by
 exact⟨World.cell?_setCell_same _ _ _ h.cell,by rw[World.frozen?_setCell];exact h.free⟩
theorem Af.new (w:World) (v:Value) (t:TypeId):Af w.heap.size v (w.alloc (.cells #[v] t)):=by
 have hn:(w.alloc (.cells #[v] t)).heap[w.heap.size]? =some (.cells #[v] t):=heap_alloc_new w _;exact⟨by simp only[World.cell?,hn];rfl,by simp only[World.frozen?,hn];simp⟩
end
theorem UF {w:World} {B:Nat} {v:Value} (h:w.cell? ⟨B,0,none⟩=some v):(loadVar 3 ⟨B,0,none⟩).run Tryz.prog w= .ok v w:=by
 simp[loadVar,Tryz.isAgg3,Tryz.sizeOf3,h,go_sem]
theorem YA {w:World} {B:Nat} {v:Value} (h:w.cell? ⟨B,0,none⟩=some v):(loadVar 9 ⟨B,0,none⟩).run Tryz.prog w= .ok v w:=by
 simp[loadVar,Tryz.isAgg9,Tryz.sizeOf9,h,go_sem]
theorem Ez {P:Program} {fn:Func} {p0 p1:Tmp} {t0 t1:TypeId} {v0 v1:Value} (h:fn.results= #[.cell p0 t0,.cell p1 t1]) (tmps:Array Value) (w:World) (a0 a1:Addr)
  (hp0:tmps.getD p0 undef= .pointer (some a0)) (hp1:tmps.getD p1 undef= .pointer (some a1))
  (hl0:(loadVar t0 a0).run P w= .ok v0 w) (hl1:(loadVar t1 a1).run P w= .ok v1 w):
  (results fn tmps).run P w= .ok (.tuple #[v0,v1]) w:=by
 have e0:tmps[p0]?.getD undef= .pointer (some a0):=by simpa [Array.getD_eq_getD_getElem?]using hp0
 have e1:tmps[p1]?.getD undef= .pointer (some a1):=by simpa [Array.getD_eq_getD_getElem?]using hp1
 simp[results,h,e0,e1,asAddr,hl0,hl1]
theorem SD (x y:ByteArray) (n:Int) (B:Nat) (v:Value) (w:World) (h:Af B v w):
  Calls Tryz.prog 227 #[.agg #[.string x,.string y],.int .i64 n,.pointer (some ⟨B,0,none⟩)] w fun e w'=>e= .returned (.bool true)/\Af B (.int .i64 n) w'/\w.grownBy w' (some B):=by
 have h1:=h.below ((Below.refl _ w).alloc (o:= .cells #[.string x,.string y] 182) (Nat.le_refl _));have q:=h1.cell;have f:=h1.free;have HR:Hid _:=h1.set (.int .i64 n);have HG:Hid (w.grownBy ((w.alloc (.cells #[.string x,.string y] 182)).setCell ⟨B,0,none⟩ (.int .i64 n)) (some B)):=(ED ((Below.refl _ w).alloc (Nat.le_refl _) _) _).trans (Dm _ B 0 _);clear h h1;go_enter Tryz.func227,Tryz.ntmps227;go_wp2;go_ret;exact⟨rfl,HR.out,HG.out⟩
theorem PH {t:ByteArray} {ps:List Pr} {z:Nat} (hL:Dq t ps z) (w:World):
  Calls Tryz.prog 171 #[.string t] w fun e w'=>e= .returned (.int .i64 (szL ps:Nat))/\Below w.heap.size w w':=by
 have HL:Hid _:=hL;have hmf:∀(fn:Fn) (first cap:Array Value) (w:World),(Instr.makeFunc fn first cap).run Tryz.prog w= .ok (.func fn first cap) w:=fun _ _ _ _=>rfl;have HO:Hid (Af w.heap.size (.int .i64 0) (w.alloc (.cells #[.int .i64 0] 3))):=Af.new w _ _;have HB:Hid (Below w.heap.size w (w.alloc (.cells #[.int .i64 0] 3))):=(Below.refl _ w).alloc (Nat.le_refl _) _;clear hL;go_enter Tryz.func171,Tryz.ntmps171;go_wp2_with fail;refine(Gj (fun j wx=>Af w.heap.size (.int .i64 (szL (ps.take j):Nat)) wx/\Below w.heap.size w wx) (fun _=>False) (enters_of Tryz.func227 (by kernel_rfl) rfl) HL.out (fun j wx hh=>⟨hh.1.drew,hh.2.drew⟩) (fun j hj wx hh=> ?_) _ ⟨HO.out,HB.out⟩).mono ?_
 ·refine(SD _ _ _ _ _ _ hh.1).mono ?_
  rintro _ wy ⟨rfl,h1,h2⟩;exact⟨true,rfl,h1,hh.2.grown h2 hh.2.size (fun k e=>by cases e;exact Nat.le_refl _)⟩
 rintro _ w1 ⟨b,rfl,h1⟩
 cases b
 ·exact h1.elim
 ·obtain⟨h2,h3⟩:=h1
  rw[List.take_length]at h2;have q:=h2.cell;have f:=h2.free;have HR:Hid _:=h2.set (.int .i64 (szL ps:Nat));have HB1:Hid (Below w.heap.size w (w1.setCell ⟨w.heap.size,0,none⟩ (.int .i64 (szL ps:Nat)))):=h3.setCell (Nat.le_refl _) _;clear h2 h3;go_wp2
  (try simp only[Exit.inBlock,Exit.then])
  exact bodyPost_ret (v:= .int .i64 (szL ps:Nat)) (Ec Tryz.results171 _ _ _ rfl (UF HR.out.cell)) rfl ⟨rfl,HB1.out⟩
def bl (x y:ByteArray):Bool:=Op.bytesLess x.toList y.toList
theorem Af.other {B C:Nat} {v u:Value} {w:World} (h:Af B v w) (hne:B≠C):Af B v (w.setCell ⟨C,0,none⟩ u):=
 ⟨by rw[World.cell?_setCell_other _ _ _ _ (fun e=>hne (by cases e;rfl))];exact h.cell,by rw[World.frozen?_setCell];exact h.free⟩
structure Fv (w0:World) (Bk B4 B5:Nat) (key:ByteArray) (a b:Int) (w:World):Prop where
 k:Af Bk (.string key) w
 f:Af B4 (.int .i64 a) w
 t:Af B5 (.int .i64 b) w
 n1:B4≠B5
 n2:Bk≠B4
 n3:Bk≠B5
 l4:w0.heap.size<=B4
 l5:w0.heap.size<=B5
 below:Below w0.heap.size w0 w
section
variable {w0 w wx:World} {Bk B4 B5:Nat} {key:ByteArray} {a b:Int}
theorem Fv.step (h:Fv w0 Bk B4 B5 key a b w) (hb:Below w.heap.size w wx):Fv w0 Bk B4 B5 key a b wx:=
 {h with k:=h.k.below hb,f:=h.f.below hb,t:=h.t.below hb,below:=h.below.trans (hb.mono h.below.size)}
theorem Fv.drew (h:Fv w0 Bk B4 B5 key a b w):Fv w0 Bk B4 B5 key a b w.drew:=
 {h with k:=h.k.drew,f:=h.f.drew,t:=h.t.drew,below:=h.below.drew}
theorem Fv.setT (h:Fv w0 Bk B4 B5 key a b w) (n:Int):Fv w0 Bk B4 B5 key a n (w.setCell ⟨B5,0,none⟩ (.int .i64 n)):=
 {h with k:=h.k.other h.n3,f:=h.f.other h.n1,t:=h.t.set _,below:=h.below.setCell h.l5 _}
theorem Fv.setF (h:Fv w0 Bk B4 B5 key a b w) (n:Int):Fv w0 Bk B4 B5 key n b (w.setCell ⟨B4,0,none⟩ (.int .i64 n)):=
 {h with k:=h.k.other h.n2,f:=h.f.set _,t:=h.t.other (fun e=>h.n1 e.symm),below:=h.below.setCell h.l4 _}
theorem Hz (w:World) (x y:ByteArray) (t:TypeId):(w.alloc (.cells #[.string x,.string y] t)).cell? ⟨w.heap.size,0,none⟩=some (.string x):=by
 have hn:(w.alloc (.cells #[.string x,.string y] t)).heap[w.heap.size]? =some (.cells #[.string x,.string y] t):=heap_alloc_new w _;simp only[World.cell?,hn];rfl
theorem Hl {w:World} {B C o:Nat} {v u:Value} (h:w.cell? ⟨B,o,none⟩=some v) (hne:B≠C):(w.setCell ⟨C,0,none⟩ u).cell? ⟨B,o,none⟩=some v:=by
 rw[World.cell?_setCell_other _ _ _ _ (fun e=>hne (by cases e;rfl))];exact h
theorem SC (x y:ByteArray) (n:Int) (h:Fv w0 Bk B4 B5 key a b w) (hl:bl x key=true):
  Calls Tryz.prog 172 #[.agg #[.string x,.string y],.int .i64 n,.pointer (some ⟨Bk,0,none⟩),.pointer (some ⟨B5,0,none⟩),.pointer (some ⟨B4,0,none⟩)] w fun e w'=>e= .returned (.bool true)/\Fv w0 Bk B4 B5 key n n w':=by
 have l4:=h.f.lt;have l5:=h.t.lt;have h0:=h.step ((Below.refl _ w).alloc (o:= .cells #[.string x,.string y] 182) (Nat.le_refl _));have p0:=Hz w x y 182;obtain⟨W,hW⟩:∃W,w.alloc (.cells #[.string x,.string y] 182)=W:=⟨_,rfl⟩;have h1:=h0.setT n;have p1:=Hl (u:= .int .i64 n) p0 (show w.heap.size≠B5 by omega);have h2:=h1.setF n;have p2:=Hl (u:= .int .i64 n) p1 (show w.heap.size≠B4 by omega);rw[hW]at h0 p0 h1 p1 h2 p2;have q0:=h0.k.cell;have q1:=h1.k.cell;have q2:=h2.k.cell;have c5:=h0.t.cell;have f5:=h0.t.free;have c4:=h1.f.cell;have f4:=h1.f.free;have H2:Hid _:=h2;have hl2:Op.bytesLess x.toList key.toList=true:=hl;clear h h0 h1 h2 hl l4 l5;go_enter Tryz.func172,Tryz.ntmps172;go_wp2;go_ret;exact⟨rfl,H2.out⟩
theorem SA (x y:ByteArray) (n:Int) (h:Fv w0 Bk B4 B5 key a b w) (hl:bl x key=false) (he:(x.toList == key.toList)=true):
  Calls Tryz.prog 172 #[.agg #[.string x,.string y],.int .i64 n,.pointer (some ⟨Bk,0,none⟩),.pointer (some ⟨B5,0,none⟩),.pointer (some ⟨B4,0,none⟩)] w fun e w'=>e= .returned (.bool false)/\Fv w0 Bk B4 B5 key a n w':=by
 have l5:=h.t.lt;have h0:=h.step ((Below.refl _ w).alloc (o:= .cells #[.string x,.string y] 182) (Nat.le_refl _));have p0:=Hz w x y 182;obtain⟨W,hW⟩:∃W,w.alloc (.cells #[.string x,.string y] 182)=W:=⟨_,rfl⟩;have h1:=h0.setT n;have p1:=Hl (u:= .int .i64 n) p0 (show w.heap.size≠B5 by omega);rw[hW]at h0 p0 h1 p1;have q0:=h0.k.cell;have q1:=h1.k.cell;have c5:=h0.t.cell;have f5:=h0.t.free;have H2:Hid _:=h1;have hl2:Op.bytesLess x.toList key.toList=false:=hl;clear h h0 h1 hl l5;go_enter Tryz.func172,Tryz.ntmps172;go_wp2;go_ret;exact⟨rfl,H2.out⟩
theorem SB (x y:ByteArray) (n:Int) (h:Fv w0 Bk B4 B5 key a b w) (hl:bl x key=false) (he:(x.toList == key.toList)=false):
  Calls Tryz.prog 172 #[.agg #[.string x,.string y],.int .i64 n,.pointer (some ⟨Bk,0,none⟩),.pointer (some ⟨B5,0,none⟩),.pointer (some ⟨B4,0,none⟩)] w fun e w'=>e= .returned (.bool false)/\Fv w0 Bk B4 B5 key a b w':=by
 have h0:=h.step ((Below.refl _ w).alloc (o:= .cells #[.string x,.string y] 182) (Nat.le_refl _));have p0:=Hz w x y 182;obtain⟨W,hW⟩:∃W,w.alloc (.cells #[.string x,.string y] 182)=W:=⟨_,rfl⟩;rw[hW]at h0 p0;have q0:=h0.k.cell;have H2:Hid _:=h0;have hl2:Op.bytesLess x.toList key.toList=false:=hl;clear h h0 hl;go_enter Tryz.func172,Tryz.ntmps172;go_wp2;go_ret;exact⟨rfl,H2.out⟩
end
structure KJ (ps:List Pr) (key:ByteArray) (j:Nat) (a b:Nat):Prop where
 le:j<=ps.length
 less:∀i (hi:i<j),bl (ps[i]'(by omega)).k key=true
 from_:a=szL (ps.take j)
 to_:(b=a/\(∀hj:j<ps.length,bl ps[j].k key=false/\(ps[j].k.toList == key.toList)=false))\/(∃hj:j<ps.length,(ps[j].k.toList == key.toList)=true/\bl ps[j].k key=false/\b=szL (ps.take (j+1)))
theorem UV {t key:ByteArray} {ps:List Pr} {z:Nat} (hL:Dq t ps z) (w:World):
  Calls Tryz.prog 127 #[.string t,.string key] w fun e w'=>∃j a b,e= .returned (.tuple #[.int .i64 (a:Nat),.int .i64 (b:Nat)])/\KJ ps key j a b/\Below w.heap.size w w':=by
 have HL:Hid _:=hL;have hmf:∀(fn:Fn) (first cap:Array Value) (w:World),(Instr.makeFunc fn first cap).run Tryz.prog w= .ok (.func fn first cap) w:=fun _ _ _ _=>rfl;have hb1:Below w.heap.size w (((w.alloc (.cells #[.string key] 9)).alloc (.cells #[.int .i64 0] 3)).alloc (.cells #[.int .i64 0] 3)):=(((Below.refl _ w).alloc (Nat.le_refl _) _).alloc (by simp) _).alloc (by simp;omega) _
 have HF:Hid (Fv w w.heap.size (w.heap.size+1) (w.heap.size+1+1) key 0 0 (((w.alloc (.cells #[.string key] 9)).alloc (.cells #[.int .i64 0] 3)).alloc (.cells #[.int .i64 0] 3))):=by
  have n1:=Af.new w (.string key) 9;have n2:=Af.new (w.alloc (.cells #[.string key] 9)) (.int .i64 0) 3;have n3:=Af.new ((w.alloc (.cells #[.string key] 9)).alloc (.cells #[.int .i64 0] 3)) (.int .i64 0) 3;rw[World.size_alloc]at n2;rw[World.size_alloc,World.size_alloc]at n3;refine⟨(n1.below ((Below.refl _ _).alloc (Nat.le_refl _) _)).below ((Below.refl _ _).alloc (Nat.le_refl _) _),n2.below ((Below.refl _ _).alloc (Nat.le_refl _) _),n3,by omega,by omega,by omega,by omega,by omega,hb1⟩
 clear hL hb1;go_enter Tryz.func127,Tryz.ntmps127;go_wp2_with fail
 refine(Gj (fun j wx=>(∀i (hi:i<j) (hl:i<ps.length),bl ps[i].k key=true)/\Fv w w.heap.size (w.heap.size+1) (w.heap.size+1+1) key (szL (ps.take j):Nat) (szL (ps.take j):Nat) wx)
  (fun wx=>∃j a b,KJ ps key j a b/\Fv w w.heap.size (w.heap.size+1) (w.heap.size+1+1) key (a:Nat) (b:Nat) wx) (enters_of Tryz.func172 (by kernel_rfl) rfl) HL.out (fun j wx hh=>⟨hh.1,hh.2.drew⟩) (fun j hj wx hh=> ?_) _ ⟨fun i hi=>absurd hi (Nat.not_lt_zero i),HF.out⟩).mono ?_
 ·obtain⟨h1,h2⟩:=hh
  cases hl:bl ps[j].k key
  ·cases he:(ps[j].k.toList == key.toList)
   ·refine(SB _ _ _ h2 hl he).mono ?_
    rintro _ wy ⟨rfl,h3⟩;exact⟨false,rfl,j,_,_,⟨by omega,fun i hi=>h1 i hi (by omega),rfl,.inl ⟨rfl,fun _=>⟨hl,he⟩⟩⟩,h3⟩
   ·refine(SA _ _ _ h2 hl he).mono ?_
    rintro _ wy ⟨rfl,h3⟩;exact⟨false,rfl,j,_,_,⟨by omega,fun i hi=>h1 i hi (by omega),rfl,.inr ⟨hj,he,hl,rfl⟩⟩,h3⟩
  ·refine(SC _ _ _ h2 hl).mono ?_
   rintro _ wy ⟨rfl,h3⟩;refine⟨true,rfl,fun i hi hl2=> ?_,h3⟩
   by_cases e:i=j
   ·subst e;exact hl
   ·exact h1 i (by omega) hl2
 rintro _ w1 ⟨b,rfl,h1⟩
 obtain⟨j,f0,t0,hR,hV⟩:∃j a b,KJ ps key j a b/\Fv w w.heap.size (w.heap.size+1) (w.heap.size+1+1) key (a:Nat) (b:Nat) w1:=by
  cases b
  ·exact h1
  ·exact⟨ps.length,_,_,⟨Nat.le_refl _,fun i hi=>h1.1 i hi hi,rfl,.inl ⟨rfl,fun hj=>absurd hj (Nat.lt_irrefl _)⟩⟩,h1.2⟩
 have HR:Hid (KJ ps key j f0 t0):=hR;have HV:Hid _:=hV;clear h1 hR hV HF;have V0:=HV.out.drew;have V1:=V0.setF f0;have V2:=V1.setT t0;have C:∀ {wx:World},Fv w w.heap.size (w.heap.size+1) (w.heap.size+1+1) key (f0:Nat) (t0:Nat) wx->wx.cell? ⟨w.heap.size+1,0,none⟩=some (.int .i64 (f0:Nat))/\wx.cell? ⟨w.heap.size+1+1,0,none⟩=some (.int .i64 (t0:Nat))/\wx.frozen? ⟨w.heap.size+1,0,none⟩=false/\wx.frozen? ⟨w.heap.size+1+1,0,none⟩=false:=fun h=>⟨h.f.cell,h.t.cell,h.f.free,h.t.free⟩;have C0:Hid _:=C V0;have C1:Hid _:=C V1;have C2:Hid _:=C V2;have H2:Hid _:=V2;clear V0 V1 V2 C HV;go_wp2_with fail
 go_region_held3 (fun wx=>wx.cell? ⟨w.heap.size+1,0,none⟩=some (.int .i64 (f0:Nat))/\wx.cell? ⟨w.heap.size+1+1,0,none⟩=some (.int .i64 (t0:Nat))/\wx.frozen? ⟨w.heap.size+1,0,none⟩=false/\wx.frozen? ⟨w.heap.size+1+1,0,none⟩=false) (first|exact C0.out|exact C1.out|exact C2.out) (fail)
 go_wp2
 (try simp only[Exit.inBlock,Exit.then])
 exact bodyPost_ret (v:= .tuple #[.int .i64 (f0:Nat),.int .i64 (t0:Nat)]) (Ez Tryz.results127 _ _ _ _ rfl rfl (UF H2.out.f.cell) (UF H2.out.t.cell)) rfl ⟨j,f0,t0,rfl,HR.out,H2.out.below⟩
def Cw:List Pr->ByteArray
 | []=>⟨#[]⟩
 |x::_=>x.k
theorem UU (x y:ByteArray) (n:Int) (B:Nat) (v:Value) (w:World) (h:Af B v w):
  Calls Tryz.prog 170 #[.agg #[.string x,.string y],.int .i64 n,.pointer (some ⟨B,0,none⟩)] w fun e w'=>e= .returned (.bool false)/\Af B (.string x) w'/\w.grownBy w' (some B):=by
 have h1:=h.below ((Below.refl _ w).alloc (o:= .cells #[.string x,.string y] 182) (Nat.le_refl _));have q:=h1.cell;have f:=h1.free;have p0:=Hz w x y 182;have HR:Hid _:=h1.set (.string x);have HG:Hid (w.grownBy ((w.alloc (.cells #[.string x,.string y] 182)).setCell ⟨B,0,none⟩ (.string x)) (some B)):=(ED ((Below.refl _ w).alloc (Nat.le_refl _) _) _).trans (Dm _ B 0 _);clear h h1;go_enter Tryz.func170,Tryz.ntmps170;go_wp2;go_ret;exact⟨rfl,HR.out,HG.out⟩
theorem S8 {t:ByteArray} {ps:List Pr} {z:Nat} (hL:Dq t ps z) (w:World):
  Calls Tryz.prog 125 #[.string t] w fun e w'=>e= .returned (.string (Cw ps))/\Below w.heap.size w w':=by
 have HL:Hid _:=hL;have hmf:∀(fn:Fn) (first cap:Array Value) (w:World),(Instr.makeFunc fn first cap).run Tryz.prog w= .ok (.func fn first cap) w:=fun _ _ _ _=>rfl;have HO:Hid (Af w.heap.size (.string ⟨#[]⟩) (w.alloc (.cells #[.string ⟨#[]⟩] 9))):=Af.new w _ _;have HB:Hid (Below w.heap.size w (w.alloc (.cells #[.string ⟨#[]⟩] 9))):=(Below.refl _ w).alloc (Nat.le_refl _) _;clear hL;go_enter Tryz.func125,Tryz.ntmps125;go_wp2_with fail;refine(Gj (fun j wx=>j=0/\Af w.heap.size (.string ⟨#[]⟩) wx/\Below w.heap.size w wx) (fun wx=>Af w.heap.size (.string (Cw ps)) wx/\Below w.heap.size w wx) (enters_of Tryz.func170 (by kernel_rfl) rfl) HL.out (fun j wx hh=>⟨hh.1,hh.2.1.drew,hh.2.2.drew⟩) (fun j hj wx hh=> ?_) _ ⟨rfl,HO.out,HB.out⟩).mono ?_
 ·obtain⟨rfl,hh1,hh2⟩:=hh
  refine(UU _ _ _ _ _ _ hh1).mono ?_;rintro _ wy ⟨rfl,h1,h2⟩;refine⟨false,rfl,?_,hh2.grown h2 hh2.size (fun k e=>by cases e;exact Nat.le_refl _)⟩
  cases ps with
  |nil=>exact absurd hj (Nat.not_lt_zero _)
  |cons x r=>exact h1
 rintro _ w1 ⟨b,rfl,h1⟩
 obtain⟨h2,h3⟩:Af w.heap.size (.string (Cw ps)) w1/\Below w.heap.size w w1:=by
  cases b
  ·exact h1
  ·obtain⟨e,h2,h3⟩:=h1
   have:ps=[]:=List.length_eq_zero_iff.1 e;subst this;exact⟨h2,h3⟩
 have q:=h2.cell;have f:=h2.free;have HR:Hid _:=h2.set (.string (Cw ps));have HB1:Hid (Below w.heap.size w (w1.setCell ⟨w.heap.size,0,none⟩ (.string (Cw ps)))):=h3.setCell (Nat.le_refl _) _;clear h2 h3;go_wp2
 (try simp only[Exit.inBlock,Exit.then])
 exact bodyPost_ret (v:= .string (Cw ps)) (Ec Tryz.results125 _ _ _ rfl (YA HR.out.cell)) rfl ⟨rfl,HB1.out⟩
end
section
open Go.RowKit
end
section
open Go.RowKit
end
section
open Go.RowKit Go.Maps
theorem LS (x:Int):IntKind.u8.wrap x=x % 256:=by
 simp[IntKind.wrap,IntKind.signed,IntKind.bits]
theorem BB (x:Int):IntKind.u8.wrap x=((B7 x).toNat:Int):=by
 have h1:(x % 256).toNat<256:=by omega
 unfold B7;rw[UInt8.toNat_ofNat'];simp[IntKind.wrap,IntKind.signed,IntKind.bits];omega
section
variable {bp bd bm n:Nat} {p:Pg} {s:St} {w:World}
end
end
section
open Go.RowKit
def Pr.bytes (x:Pr):ByteArray:=⟨x.enc.toArray⟩
theorem OM (x0 x1:Int) (h00:0<=x0) (h01:x0<256) (h10:0<=x1) (h11:x1<256) (W:World) (B:Nat) (h0:W.cell? ⟨B,0,none⟩=some (.int .u8 x0)) (h1:W.cell? ⟨B,1,none⟩=some (.int .u8 x1)):
  (convert 166 9 (.slice (some ⟨B,0,none⟩) 2 2)).run Tryz.prog W= .ok (.string ⟨#[B7 x0,B7 x1]⟩) W:=by
 have e0:x0=((B7 x0).toNat:Int):=by rw[<-BB,LS,Int.emod_eq_of_lt h00 h01]
 have e1:x1=((B7 x1).toNat:Int):=by rw[<-BB,LS,Int.emod_eq_of_lt h10 h11]
 have:=run_convert_bytes_back (P:=Tryz.prog) W 166 9 5 ⟨B,0,none⟩ 2 [B7 x0,B7 x1] Tryz.underlying166 Tryz.underlying5 Tryz.underlying9 (fun j hj=>by
  have:j<2:=by simpa using hj
  have e:j=0\/j=1:=by omega
  rcases e with rfl|rfl
  ·rw[Addr.add_zero',h0];exact congrArg (fun z=>some (Value.int .u8 z)) e0
  ·rw[show(⟨B,0,none⟩:Addr).add 1=⟨B,1,none⟩from rfl,h1];exact congrArg (fun z=>some (Value.int .u8 z)) e1)
 exact this
theorem LI (n:Nat):B7 (n:Int)=UInt8.ofNat n:=by
 unfold B7;apply UInt8.toNat_inj.1;rw[UInt8.toNat_ofNat',UInt8.toNat_ofNat'];omega
theorem Vu (x:Pr):(⟨#[B7 (x.k.size:Int),B7 (x.i.size:Int)]⟩:ByteArray)++x.k++x.i=x.bytes:=by
 apply ByteArray.ext;apply Array.toList_inj.1;rw[ByteArray.data_append,Array.toList_append,ByteArray.data_append,Array.toList_append,LI,LI];show [UInt8.ofNat x.k.size,UInt8.ofNat x.i.size]++x.k.data.toList++x.i.data.toList=x.enc.toArray.toList;unfold Pr.enc;simp
theorem KL (x:Pr) (hx:x.Ok) (w:World):
  Calls Tryz.prog 96 #[.agg #[.string x.k,.string x.i]] w fun e w'=>e= .returned (.string x.bytes)/\Below w.heap.size w w':=by
 obtain⟨h1,h2,h3⟩:=hx;have HB:Hid _:=Vu x;rw[<-HB.out];obtain⟨k,i⟩:=x;simp only at h1 h2 h3;have hcA:=OM (k.size:Int) (i.size:Int) (by omega) (by omega) (by omega) (by omega);have hs:(⟨#[B7 (k.size:Int),B7 (i.size:Int)]⟩:ByteArray).size=2:=rfl;have hb1:Hid (Below w.heap.size w ((w.alloc (.cells #[.string k,.string i] 182)).alloc (.cells #[.int .u8 (k.size:Int),.int .u8 (i.size:Int)] 5))):=((Below.refl _ w).alloc (Nat.le_refl _) _).alloc (by simp) _;clear HB;go_enter Tryz.func96,Tryz.ntmps96;go_wp2;go_ret;exact⟨rfl,hb1.out⟩
structure Jw (t:ByteArray) (ps:List Pr) (j:Nat):Prop where
 lt:j<ps.length
 pos:0<j
 left:szL (ps.take j)<=1024
 right:szL (ps.drop j)<=1024
theorem TA (ps:List Pr) (j:Nat):szL (ps.take j)+szL (ps.drop j)=szL ps:=by
 rw[<-Am,List.take_append_drop]
theorem Od {ps:List Pr} (hok:∀x∈ps,x.Ok) (h1:1024<szL ps) (h2:szL ps<=1186) {j:Nat} (hj:j<ps.length) (hb:szL (ps.take j)<szL ps / 2) (ha:szL ps / 2<=szL (ps.take (j+1))):Jw ⟨#[]⟩ ps (j+1):=by
 have e:=Bj hj;have ok:=hok _ (List.getElem_mem hj);have hs:ps[j].sz<=162:=by unfold Pr.sz;have:=ok.2.1;have:=ok.2.2;omega
 have d:=TA ps (j+1);refine⟨?_,by omega,by omega,by omega⟩;apply Nat.lt_of_not_le;intro hn;rw[List.take_of_length_le hn]at e;omega
theorem S3 (x y t:ByteArray) (n:Int) (B C:Nat) (v:Value) (w:World) (h:Af B v w) (hC:Af C (.string t) w) (hne:C≠B) (ht:t.size<=4096):
  Calls Tryz.prog 180 #[.agg #[.string x,.string y],.int .i64 n,.pointer (some ⟨B,0,none⟩),.pointer (some ⟨C,0,none⟩)] w fun e w'=>e= .returned (.bool (decide (n<(t.size:Int) / 2)))/\Af B (.int .i64 n) w'/\Af C (.string t) w'/\w.grownBy w' (some B):=by
 have hb:=(Below.refl _ w).alloc (o:= .cells #[.string x,.string y] 182) (Nat.le_refl _);have h1:=h.below hb;have c1:=hC.below hb;have q:=h1.cell;have f:=h1.free;have H1:Hid _:=h1.set (.int .i64 n);have q1:=H1.out.cell;have C1:Hid _:=c1.other (u:= .int .i64 n) hne;have q2:=C1.out.cell;have HG:Hid (w.grownBy ((w.alloc (.cells #[.string x,.string y] 182)).setCell ⟨B,0,none⟩ (.int .i64 n)) (some B)):=(ED hb _).trans (Dm _ B 0 _);have hd:Int.tdiv (t.size:Int) 2=(t.size:Int) / 2:=Int.tdiv_eq_ediv_of_nonneg (by omega);clear h h1 hC c1 hb;go_enter Tryz.func180,Tryz.ntmps180;go_wp2;go_ret;exact⟨rfl,H1.out,C1.out,HG.out⟩
def CH (B:Nat) (v:Value) (ts:List ByteArray) (w:World):Prop:=w.ownsRow B 9 1 v ts.length (ts.map Value.string)
theorem YS (w:World) (B:Nat) (hB:B<=w.heap.size) (a:ByteArray):CH B (.slice (some ⟨w.heap.size,0,none⟩) 1 1) [a] (w.alloc (.cells #[.string a] 9)):=
 ⟨rfl,.inr ⟨w.heap.size,1,_,rfl,hB,heap_alloc_new w _,Nat.le_refl _,by decide,rfl,rfl⟩⟩
theorem YR (w:World) (B:Nat) (hB:B<=w.heap.size) (a b:ByteArray):CH B (.slice (some ⟨w.heap.size,0,none⟩) 2 2) [a,b] (w.alloc (.cells #[.string a,.string b] 9)):=
 ⟨rfl,.inr ⟨w.heap.size,2,_,rfl,hB,heap_alloc_new w _,Nat.le_refl _,by decide,rfl,rfl⟩⟩
theorem PA (t:ByteArray) (ht:t.size<=1024) (w:World):
  Calls Tryz.prog 141 #[.string t] w fun e w'=>∃v,e= .returned v/\CH w.heap.size v [t] w'/\Below w.heap.size w w':=by
 have h1:(t.size:Int)<=1024:=by omega
 have q:=(Af.new w (.string t) 9).cell;have HR:Hid _:=YS (w.alloc (.cells #[.string t] 9)) w.heap.size (by simp) t;have HB:Hid (Below w.heap.size w ((w.alloc (.cells #[.string t] 9)).alloc (.cells #[.string t] 9))):=((Below.refl _ w).alloc (Nat.le_refl _) _).alloc (by simp) _;rw[World.size_alloc]at HR;go_enter Tryz.func141,Tryz.ntmps141;go_wp2;go_ret;exact⟨_,rfl,HR.out,HB.out⟩
set_option maxHeartbeats 1000000
theorem P9 {t:ByteArray} {ps:List Pr} (hL:Dq t ps 0) (h1:1024<t.size) (h2:t.size<=1186) (w:World):
  Calls Tryz.prog 141 #[.string t] w fun e w'=>∃v j,e= .returned v/\Jw ⟨#[]⟩ ps j/\CH w.heap.size v [t.extract 0 (szL (ps.take j)),t.extract (szL (ps.take j)) t.size] w'/\Below w.heap.size w w':=by
 have h3:¬(t.size:Int)<=1024:=by omega
 have HL:Hid _:=hL;have hsz:=hL.size;rw[Nat.add_zero]at hsz;have hmf:∀(fn:Fn) (first cap:Array Value) (w:World),(Instr.makeFunc fn first cap).run Tryz.prog w= .ok (.func fn first cap) w:=fun _ _ _ _=>rfl;have n1:=Af.new w (.string t) 9;have n2:=n1.below ((Below.refl _ _).alloc (o:= .cells #[.int .i64 0] 3) (Nat.le_refl _));have n3:=Af.new (w.alloc (.cells #[.string t] 9)) (.int .i64 0) 3;rw[World.size_alloc]at n3;have hb:=((Below.refl _ w).alloc (o:= .cells #[.string t] 9) (Nat.le_refl _)).alloc (o:= .cells #[.int .i64 0] 3) (by simp);have H0:Hid (Af (w.heap.size+1) (.int .i64 0) ((w.alloc (.cells #[.string t] 9)).alloc (.cells #[.int .i64 0] 3))/\Af w.heap.size (.string t) ((w.alloc (.cells #[.string t] 9)).alloc (.cells #[.int .i64 0] 3))/\Below w.heap.size w ((w.alloc (.cells #[.string t] 9)).alloc (.cells #[.int .i64 0] 3))):=⟨n3,n2,hb⟩;have q1:=n1.cell;have q2:=n2.cell;have HZ:Hid (t.size=szL ps):=hsz;clear n1 n2 n3 hb hL hsz;go_enter Tryz.func141,Tryz.ntmps141;go_wp2_with fail
 refine(Gj (fun j wx=>(j=0\/szL (ps.take j)<t.size / 2)/\(∃c:Int,Af (w.heap.size+1) (.int .i64 c) wx)/\Af w.heap.size (.string t) wx/\Below w.heap.size w wx)
  (fun wx=>∃j,Jw ⟨#[]⟩ ps j/\Af (w.heap.size+1) (.int .i64 (szL (ps.take j):Nat)) wx/\Af w.heap.size (.string t) wx/\Below w.heap.size w wx) (enters_of Tryz.func180 (by kernel_rfl) rfl) HL.out (fun j wx hh=>⟨hh.1,hh.2.1.elim fun c hc=>⟨c,hc.drew⟩,hh.2.2.1.drew,hh.2.2.2.drew⟩) (fun j hj wx hh=> ?_) _ ⟨.inl rfl,⟨0,H0.out.1⟩,H0.out.2.1,H0.out.2.2⟩).mono ?_
 ·obtain⟨g1,⟨c,g2⟩,g3,g4⟩:=hh
  have hle:=EO ps (j+1);have hz:=HZ.out;refine(S3 _ _ t _ _ _ _ _ g2 g3 (by omega) (by omega)).mono ?_;rintro _ wy ⟨rfl,k1,k2,k3⟩;have k4:Below w.heap.size w wy:=g4.grown k3 g4.size (fun k e=>by cases e;omega)
  by_cases hc:szL (ps.take (j+1))<t.size / 2
  ·rw[decide_eq_true (show((szL (ps.take (j+1)):Nat):Int)<(t.size:Int) / 2 by omega)]
   exact⟨true,rfl,.inr hc,⟨_,k1⟩,k2,k4⟩
  ·rw[decide_eq_false (show ¬((szL (ps.take (j+1)):Nat):Int)<(t.size:Int) / 2 by omega)]
   refine⟨false,rfl,j+1,Od HL.out.ok (by omega) (by omega) hj ?_ (by omega),k1,k2,k4⟩;rcases g1 with g1|g1
   ·subst g1
    show 0<_;omega
   ·omega
 rintro _ w1 ⟨b,rfl,h4⟩
 obtain⟨j,g1,g2,g3,g4⟩:∃j,Jw ⟨#[]⟩ ps j/\Af (w.heap.size+1) (.int .i64 (szL (ps.take j):Nat)) w1/\Af w.heap.size (.string t) w1/\Below w.heap.size w w1:=by
  cases b
  ·exact h4
  ·exfalso
   have hz:=HZ.out;rcases h4.1 with e|e
   ·have:ps=[]:=List.length_eq_zero_iff.1 e
    subst this
    change t.size=0 at hz
    omega
   ·rw[List.take_length]at e
    omega
 have hle:=EO ps j;have hz:=HZ.out;have HR:Hid _:=YR w1.drew w.heap.size g4.size (t.extract 0 (szL (ps.take j))) (t.extract (szL (ps.take j)) t.size);have HB:Hid (Below w.heap.size w (w1.drew.alloc (.cells #[.string (t.extract 0 (szL (ps.take j))),.string (t.extract (szL (ps.take j)) t.size)] 9))):=g4.drew.alloc g4.size _;have G1:Hid _:=g1;have c1:=g2.drew.cell;have c2:=g3.drew.cell;clear g2 g3 g4 h4 H0 q1 q2;have hcle:szL (ps.take j)<=t.size:=by omega
 obtain⟨cut,hcut⟩:∃c,szL (ps.take j)=c:=⟨_,rfl⟩;rw[hcut]at HR HB c1 hcle;have HCUT:Hid _:=hcut;clear hcut hle hz;have hi:(cut:Int)<=(t.size:Int):=by omega
 have C0:Hid (w1.drew.cell? ⟨w.heap.size,0,none⟩=some (.string t)/\w1.drew.cell? ⟨w.heap.size+1,0,none⟩=some (.int .i64 (cut:Nat))):=⟨c2,c1⟩
 have C1:Hid ((w1.drew.alloc (.cells #[.string (t.extract 0 cut),.string (t.extract cut t.size)] 9)).cell? ⟨w.heap.size,0,none⟩=some (.string t)/\(w1.drew.alloc (.cells #[.string (t.extract 0 cut),.string (t.extract cut t.size)] 9)).cell? ⟨w.heap.size+1,0,none⟩=some (.int .i64 (cut:Nat))):=
  ⟨by rw[World.cell?_alloc_some _ _ _ (by rw[c2];rfl)];exact c2,by rw[World.cell?_alloc_some _ _ _ (by rw[c1];rfl)];exact c1⟩
 clear c1 c2;go_wp2_with fail
 go_region_held3 (fun wx=>wx.cell? ⟨w.heap.size,0,none⟩=some (.string t)/\wx.cell? ⟨w.heap.size+1,0,none⟩=some (.int .i64 (cut:Nat))) (first|exact C0.out|exact C1.out) (fail)
 go_wp2;go_ret;exact⟨_,j,rfl,G1.out,by rw[HCUT.out];exact HR.out,HB.out⟩
theorem AG (b off i:Nat):(⟨b,off,none⟩:Addr).add i=⟨b,off+i,none⟩:=by
 unfold Addr.add;split<;>simp_all
structure An (B:Nat) (v:Value) (xs:List Value) (w:World):Prop where
 is:∃(a:Option Addr) (cap:Nat),v= .slice a xs.length cap/\xs.length<=cap/\cap<=maxLen/\(a=none->cap=0)/\∀ad,a=some ad->∃b off,ad=⟨b,off,none⟩/\B<=b/\b<w.heap.size/\∀i (hi:i<xs.length),w.cell? ⟨b,off+i,none⟩=some xs[i]
section
variable {B:Nat} {v:Value} {xs:List Value} {w w':World}
theorem An.of_own {e:TypeId} (h:w.ownsRow B e 1 v xs.length xs):An B v xs w:=by
 rcases h.2 with⟨rfl,hn⟩|⟨g,cap,cur,rfl,h1,h2,h3,h4,h5,h6⟩
 ·refine⟨none,0,by rw[hn],by omega,Nat.zero_le _,fun _=>rfl,fun _ e=>by cases e⟩
 ·refine⟨some ⟨g,0,none⟩,cap,rfl,h3,h4,(fun e=>by cases e),fun ad e=> ?_⟩
  cases e
  refine⟨g,0,rfl,h1,(Array.getElem?_eq_some_iff.1 h2).1,fun i hi=> ?_⟩;have:=h.cells (g:=g) rfl i xs[i] (List.getElem?_eq_getElem hi)
  rwa [show(⟨g,0,none⟩:Addr).add i=⟨g,0+i,none⟩ by rw[AG]]at this
theorem An.below (h:An B v xs w) (hb:Below w.heap.size w w'):An B v xs w':=by
 obtain⟨a,cap,h1,h2,h3,h4,h5⟩:=h.is;refine⟨a,cap,h1,h2,h3,h4,fun ad e=> ?_⟩;obtain⟨b,off,k1,k2,k3,k4⟩:=h5 ad e;exact⟨b,off,k1,k2,Nat.lt_of_lt_of_le k3 hb.size,fun i hi=>(hb.cell (p:=⟨b,off+i,none⟩) k3).trans (k4 i hi)⟩
theorem An.only {S:Nat->Prop} (h:An B v xs w) (ho:Aa S w w') (hS:∀b,S b->b<B):An B v xs w':=by
 obtain⟨a,cap,h1,h2,h3,h4,h5⟩:=h.is;refine⟨a,cap,h1,h2,h3,h4,fun ad e=> ?_⟩;obtain⟨b,off,k1,k2,k3,k4⟩:=h5 ad e;exact⟨b,off,k1,k2,Nat.lt_of_lt_of_le k3 ho.size,fun i hi=>(ho.cell k3 (fun s=>by have:=hS b s;omega) (off+i)).trans (k4 i hi)⟩
theorem An.drew (h:An B v xs w):An B v xs w.drew:=h.below (Below.refl _ w).drew
theorem An.mono {C:Nat} (h:An B v xs w) (hC:C<=B):An C v xs w:=by
 obtain⟨a,cap,h1,h2,h3,h4,h5⟩:=h.is;refine⟨a,cap,h1,h2,h3,h4,fun ad e=> ?_⟩;obtain⟨b,off,k1,k2,k3,k4⟩:=h5 ad e;exact⟨b,off,k1,Nat.le_trans hC k2,k3,k4⟩
theorem An.sliced {a:Option Addr} {cap:Nat} (h:An B (.slice a xs.length cap) xs w) (i j:Nat) (hij:i<=j) (hj:j<=xs.length):An B (Go.sliced a i j cap 1) ((xs.drop i).take (j-i)) w:=by
 obtain⟨a',cap',e,h2,h3,h4,h5⟩:=h.is
 cases e
 have hl:((xs.drop i).take (j-i)).length=j-i:=by rw[List.length_take,List.length_drop];omega
 unfold Go.sliced
 by_cases hc:cap=i
 ·rw[if_pos hc]
  refine⟨a,cap-i,by rw[hl],by omega,by omega,fun e=>by have:=h4 e;omega,fun ad e=> ?_⟩;obtain⟨b,off,k1,k2,k3,k4⟩:=h5 ad e;exact⟨b,off,k1,k2,k3,fun k hk=>absurd hk (by omega)⟩
 ·rw[if_neg hc]
  refine⟨a.map (·.add (i * 1)),cap-i,by rw[hl],by omega,by omega,fun e=> ?_,fun ad e=> ?_⟩
  ·cases a with
   |none=>have:=h4 rfl;omega
   |some _=>cases e
  ·cases a with
   |none=>cases e
   |some a0=>
    obtain⟨b,off,rfl,k2,k3,k4⟩:=h5 a0 rfl
    cases e
    refine⟨b,off+i,by show(⟨b,off,none⟩:Addr).add (i * 1)=_;rw[AG,Nat.mul_one],k2,k3,fun k hk=> ?_⟩;have:=k4 (i+k) (by omega);rw[Nat.add_assoc,this];simp
theorem An.len (h:An B v xs w) {t e:TypeId} (ht:Tryz.prog.underlying t=some (.slice e)) (ty:TypeId) (wx:World):(Builtin.len_ #[t] ty #[v]).run Tryz.prog wx= .ok (.int .i64 (xs.length:Nat)) wx:=by
 obtain⟨a,cap,rfl,_⟩:=h.is;simp[Builtin.len_,run_underlying ht,goInt]
theorem An.cut (h:An B v xs w) (i j:Nat) (hij:i<=j) (hj:j<=xs.length):∃v',An B v' ((xs.drop i).take (j-i)) w/\
  (∀ {t e:TypeId},Tryz.prog.underlying t=some (.slice e)->Tryz.prog.elem t=e->(Tryz.prog.info? e).map (·.size)=some 1->∀(x y:Int),x=i->y=j->∀wx,(Instr.slice t v (some (.int .i64 x)) (some (.int .i64 y)) none).run Tryz.prog wx= .ok v' wx/\
    (i=0->(Instr.slice t v none (some (.int .i64 y)) none).run Tryz.prog wx= .ok v' wx)/\(j=xs.length->(Instr.slice t v (some (.int .i64 x)) none none).run Tryz.prog wx= .ok v' wx)):=by
 obtain⟨a,cap,rfl,h2,h3,h4,h5⟩:=h.is;refine⟨_,h.sliced i j hij hj,?_⟩;intro t e ht he hs x y hx hy wx;subst hx hy he
 have hz:(sizeOf (Tryz.prog.elem t)).run Tryz.prog wx= .ok 1 wx:=by
  cases hq:Tryz.prog.info? (Tryz.prog.elem t)with
  |none=>rw[hq]at hs;cases hs
  |some i=>rw[hq]at hs;simp[sizeOf,typeInfo,hq];simpa using hs
 refine⟨?_,fun e=> ?_,fun e=> ?_⟩
 ·rw[run_slice_lh wx t a _ cap ht .i64 .i64 i j (by omega) (by omega) (by omega),hz]
  rfl
 ·subst e
  rw[run_slice_h wx t a _ cap ht .i64 j (by omega) (by omega),hz];rfl
 ·subst e
  rw[run_slice_l wx t a _ cap ht .i64 i (by omega) (by omega),hz];rfl
theorem An.at (h:An B v xs w) {i:Nat} (hi:i<xs.length):∃b off,B<=b/\b<w.heap.size/\w.cell? ⟨b,off,none⟩=some xs[i]/\
  ∀ {t e:TypeId},Tryz.prog.underlying t=some (.slice e)->Tryz.prog.elem t=e->(Tryz.prog.info? e).map (·.size)=some 1->∀x:Int,x=i->∀wx,(Instr.indexAt t v (.int .i64 x)).run Tryz.prog wx= .ok (.pointer (some ⟨b,off,none⟩)) wx:=by
 obtain⟨a,cap,rfl,h2,h3,h4,h5⟩:=h.is
 cases a with
 |none=>have:=h4 rfl;omega
 |some a0=>
  obtain⟨b,off,rfl,k2,k3,k4⟩:=h5 a0 rfl;refine⟨b,off+i,k2,k3,k4 i hi,?_⟩;intro t e ht he hs x hx wx;subst hx he
  have hz:(sizeOf (Tryz.prog.elem t)).run Tryz.prog wx= .ok 1 wx:=by
   cases hq:Tryz.prog.info? (Tryz.prog.elem t)with
   |none=>rw[hq]at hs;cases hs
   |some i=>rw[hq]at hs;simp[sizeOf,typeInfo,hq];simpa using hs
  have h7:(i:Int)<(xs.length:Int):=by omega
  rw[run_indexAt_slice (h:=ht),if_pos ⟨by omega,h7⟩,hz];simp[Result.andThen,AG]
end
def BU (l:List ByteArray) (s:ByteArray):List ByteArray:=
 match l.getLast? with
 |none=>[s]
 |some x=>if x.size+s.size<=1024 then l.dropLast++[x++s]else l++[s]
def E8 (ts:List ByteArray):List ByteArray:=ts.foldl BU []
theorem Ee {ts:List ByteArray} {k:Nat} (hk:k<ts.length):E8 (ts.take (k+1))=BU (E8 (ts.take k)) ts[k]:=by
 unfold E8;rw[List.take_succ_eq_append_getElem hk,List.foldl_append];rfl
theorem M6 (l:List ByteArray) (s:ByteArray):(BU l s).length<=l.length+1:=by
 unfold BU
 cases h:l.getLast? with
 |none=>simp
 |some x=>
  simp only[];split
  ·rw[List.length_append,List.length_dropLast];simp
  ·rw[List.length_append];simp
theorem Kn {l:List ByteArray} {s:ByteArray} (hl:∀x∈l,x.size<=2000) (hs:s.size<=2000):∀x∈BU l s,x.size<=2000:=by
 unfold BU
 cases h:l.getLast? with
 |none=>intro x hx;simp at hx;subst hx;exact hs
 |some y=>
  simp only[];split
  ·rename_i e
   intro x hx;rw[List.mem_append]at hx;rcases hx with hx|hx
   ·exact hl x (List.dropLast_subset l hx)
   ·simp at hx;subst hx;rw[ByteArray.size_append];omega
  ·intro x hx
   rw[List.mem_append]at hx;rcases hx with hx|hx
   ·exact hl x hx
   ·simp at hx;subst hx;exact hs
theorem IG (ts:List ByteArray):∀k,(E8 (ts.take k)).length<=k
 |0=>Nat.le_refl _
 |k+1=>by
  by_cases hk:k<ts.length
  ·rw[Ee hk]
   have:=M6 (E8 (ts.take k)) ts[k];have:=IG ts k;omega
  ·rw[List.take_of_length_le (by omega)]
   have:=IG ts k;rw[List.take_of_length_le (by omega)]at this;omega
theorem Gc {ts:List ByteArray} (h:∀x∈ts,x.size<=2000):∀k,∀x∈E8 (ts.take k),x.size<=2000
 |0=>fun x hx=>by simp[E8]at hx
 |k+1=>by
  by_cases hk:k<ts.length
  ·rw[Ee hk]
   exact Kn (Gc h k) (h _ (List.getElem_mem hk))
  ·rw[List.take_of_length_le (by omega)]
   have:=Gc h k;rw[List.take_of_length_le (by omega)]at this;exact this
theorem CH.view {B:Nat} {v:Value} {ts:List ByteArray} {w:World} (h:CH B v ts w):An B v (ts.map Value.string) w:=
 An.of_own (e:=9) (by rw[List.length_map];exact h)
theorem Bo:Tryz.prog.elem 22=9:=by kernel_rfl
theorem BR:(Tryz.prog.info? 9).map (·.size)=some 1:=by kernel_rfl
theorem Dh:Tryz.prog.elem 95=3:=by kernel_rfl
theorem Ex:(Tryz.prog.info? 3).map (·.size)=some 1:=by kernel_rfl
theorem Ja:∃i0:TypeInfo,Tryz.prog.info? 9=some i0/\i0.zero=some (.string ⟨#[]⟩)/\i0.size=1/\i0.bytes=16:=by
 have h:(Tryz.prog.info? 9).map (fun i=>(i.zero,i.size,i.bytes))=some (some (.string ⟨#[]⟩),1,16):=by kernel_rfl
 cases hq:Tryz.prog.info? 9 with
 |none=>rw[hq]at h;cases h
 |some i=>
  rw[hq]at h;simp at h;exact⟨i,rfl,h.1,h.2.1,h.2.2⟩
theorem Ob:∃i0:TypeInfo,Tryz.prog.info? 3=some i0/\i0.zero=some (.int .i64 0)/\i0.size=1/\i0.bytes=8:=by
 have h:(Tryz.prog.info? 3).map (fun i=>(i.zero,i.size,i.bytes))=some (some (.int .i64 0),1,8):=by kernel_rfl
 cases hq:Tryz.prog.info? 3 with
 |none=>rw[hq]at h;cases h
 |some i=>
  rw[hq]at h;simp at h;exact⟨i,rfl,h.1,h.2.1,h.2.2⟩
theorem JW (w:World) (x:ByteArray) (t:TypeId):∀j u,([Value.string x]:List Value)[j]? =some u->(w.alloc (.cells #[.string x] t)).cell? ((⟨w.heap.size,0,none⟩:Addr).add j)=some u:=by
 intro j u hu;have hn:(w.alloc (.cells #[.string x] t)).heap[w.heap.size]? =some (.cells #[.string x] t):=heap_alloc_new w _
 cases j with
 |zero=>simp at hu;subst hu;rw[AG];simp only[World.cell?,hn];rfl
 |succ j=>simp at hu
set_option maxHeartbeats 4000000
theorem UL {B:Nat} {v:Value} {ts:List ByteArray} (w:World) (hV:An B v (ts.map Value.string) w) (hs:∀x∈ts,x.size<=2000) (hn:ts.length<=1000):
  Calls Tryz.prog 144 #[v] w fun e w'=>∃v',e= .returned v'/\CH w.heap.size v' (E8 ts) w'/\Below w.heap.size w w':=by
 have hlen:=hV.len Tryz.underlying22;rw[List.length_map]at hlen;have HV:Hid _:=hV;have HS:Hid _:=hs;clear hV hs;go_enter Tryz.func144,Tryz.ntmps144;go_wp2_with fail;go_loopw [3,9] (fun l i wr=>∃k:Nat,k<=ts.length/\i= .int .i64 k/\Hid (CH w.heap.size l (E8 (ts.take k)) wr)/\Hid (Below w.heap.size w wr)) (fun _ i _=>ts.length-(intOf i).toNat)
 case atStart=>exact⟨0,Nat.zero_le _,rfl,World.ownsRow_nil _ _ _ _,Below.refl _ _⟩
 case round=>
  obtain⟨k,hk,rfl,HR,HB⟩:=hrel
  by_cases hlt:k<ts.length
  ·have h1:(k:Int)<(ts.length:Int):=by omega
   obtain⟨b0,o0,k1,k2,k3,k4⟩:=(HV.out.below HB.out).at (i:=k) (by rw[List.length_map];exact hlt);have hix:=k4 Tryz.underlying22 Bo BR (k:Int) rfl;rw[List.getElem_map]at k3;have hsk:=HS.out _ (List.getElem_mem hlt);have HJ:Hid (E8 (ts.take (k+1))=BU (E8 (ts.take k)) ts[k]):=Ee hlt;have hjl:=IG ts k;have HSM:Hid _:=Gc HS.out k;obtain⟨x,hx⟩:∃x,ts[k]=x:=⟨_,rfl⟩;rw[hx]at k3 hsk HJ;obtain⟨L,hL⟩:∃L,E8 (ts.take k)=L:=⟨_,rfl⟩;rw[hL]at HR HJ hjl HSM;clear hx hL k1 k2 k4;have hln:=(CH.view HR.out).len Tryz.underlying22;rw[List.length_map]at hln;obtain⟨i0,hi,hz0,hz1,hz2⟩:=Ja;rcases List.eq_nil_or_concat L with rfl|⟨M,y,rfl⟩
   ·have HO2:Hid _:=HR.out.alloc (.cells #[.string x] 9)
    go_wp2_with (at_builtin;refine wpList_append_own _ rfl _ _ 22 rfl w.heap.size 9 i0 (.string ⟨#[]⟩) 1 16 Tryz.underlying22 hi hz0 hz1 hz2 rfl (by decide) _ _ _ rfl HO2.out ⟨wr.heap.size,0,none⟩ 1 1 [.string x] rfl rfl (JW wr x 9) (by intro u hu;simp at hu;subst hu;rfl) (by simp[maxLen]) (by simp) (by have:=HB.out.size;simp;omega) ?_;intro v' w' hO hG hN)
    refine⟨⟨k+1,by omega,by go_num,?_,?_⟩,by simp[intOf];omega⟩
    ·show CH _ _ _ _
     rw[HJ.out];exact hO
    ·exact(HB.out.alloc HB.out.size _).grown hG (by have:=HB.out.size;simp;omega) (fun k e=>(HR.out.lt k e).1)
   ·have hy:=HSM.out y (by simp)
    have HJ2:Hid (BU (M++[y]) x=if y.size+x.size<=1024 then M++[y++x]else(M++[y])++[x]):=by
     show BU (M++[y]) x=_;unfold BU;simp
    rw[List.concat_eq_append]at HR hjl hln;have hml:(M++[y]).length=M.length+1:=by simp
    rw[hml]at hln hjl;obtain⟨g,cap,hv,hg1,hg2⟩:=HR.out.form (by rw[hml];omega);subst hv;rw[hml]at hln
    have c0:wr.cell? ⟨g,M.length,none⟩=some (.string y):=by
     have:=HR.out.cellAt M.length (by rw[hml];omega);rw[this];simp
    have f0:=HR.out.frozenAt M.length;obtain⟨st1,st2⟩:=HR.out.stored M.length (.string (y++x))
    have HST:Hid (CH w.heap.size (.slice (some ⟨g,0,none⟩) (M++[y]).length cap) (M++[y++x]) (wr.setCell ⟨g,M.length,none⟩ (.string (y++x)))):=by
     have e:(List.map Value.string (M++[y])).set M.length (.string (y++x))=List.map Value.string (M++[y++x]):=by
      rw[List.map_append,List.map_append];have:(List.map Value.string M).length=M.length:=List.length_map _;rw[List.set_append_right _ _ (by rw[this];omega),this,Nat.sub_self];rfl
     rw[e]at st1;show World.ownsRow _ _ _ _ _ _ _;have e2:(M++[y++x]).length=(M++[y]).length:=by simp
     rw[e2];exact st1
    have HB2:Hid (Below w.heap.size w (wr.setCell ⟨g,M.length,none⟩ (.string (y++x)))):=HB.out.setCell hg1 _;clear st1 st2;rw[hml]at HST HR;rw[hml];generalize M.length=m at *
    by_cases hle:y.size+x.size<=1024
    ·have hle2:(y.size:Int)+(x.size:Int)<=1024:=by omega
     have HJ3:Hid (E8 (ts.take (k+1))=M++[y++x]):=by
      show _=_;rw[HJ.out,List.concat_eq_append,HJ2.out,if_pos hle]
     clear HJ HJ2 HR HB;go_wp2_with fail;go_roundw
     case rel=>exact⟨k+1,by omega,by go_num,by rw[HJ3.out];exact HST.out,HB2⟩
     case measure=>simp[intOf];omega
    ·have hle2:¬(y.size:Int)+(x.size:Int)<=1024:=by omega
     have HJ3:Hid (E8 (ts.take (k+1))=(M++[y])++[x]):=by
      show _=_;rw[HJ.out,List.concat_eq_append,HJ2.out,if_neg hle]
     have HO2:Hid _:=HR.out.alloc (.cells #[.string x] 9);clear HJ HJ2 HST HB2
     go_wp2_with (at_builtin;refine wpList_append_own _ rfl _ _ 22 rfl w.heap.size 9 i0 (.string ⟨#[]⟩) 1 16 Tryz.underlying22 hi hz0 hz1 hz2 rfl (by decide) _ _ _ rfl HO2.out ⟨wr.heap.size,0,none⟩ 1 1 [.string x] rfl rfl (JW wr x 9) (by intro u hu;simp at hu;subst hu;rfl) (by rw[hml];simp only[maxLen];omega) (by rw[hml];omega) (by have:=HB.out.size;simp;omega) ?_;intro v' w' hO hG hN)
     refine⟨⟨k+1,by omega,by go_num,?_,?_⟩,by simp[intOf];omega⟩
     ·show CH _ _ _ _
      rw[HJ3.out];show World.ownsRow _ _ _ _ _ _ _;rw[List.map_append,List.length_append];exact hO
     ·exact(HB.out.alloc HB.out.size _).grown hG (by have:=HB.out.size;simp;omega) (fun k e=>by cases e;exact hg1)
  ·have h1:¬(k:Int)<(ts.length:Int):=by omega
   obtain rfl:k=ts.length:=by omega
   rw[List.take_length]at HR;go_wp2;go_ret;exact⟨_,rfl,HR.out,HB.out⟩
end
end Go.Proofs.YtgfldnaahojnlaaGreatDoor
