/- StoreFinds: part 6. -/
import Derived.Test.YtihnldkgeelehaaGreatDoorF05
set_option maxRecDepth 100000
set_option maxHeartbeats 4000000
namespace Go.Proofs.YtihnldkgeelehaaGreatDoor
section
open Go.RowKit Go.Maps
section
variable {bt bp bd bm N r:Nat} {s:St} {up:Nat->Bool} {cm:Int} {V:Pst} {w:World}
theorem Ae {wa wb:World} {b o:Nat} {v:Value} (hb:Below wa.heap.size wa wb) (h:wa.cell? ⟨b,o,none⟩=some v):wb.cell? ⟨b,o,none⟩=some v:=(hb.cell (p:=⟨b,o,none⟩) (World.block_lt_of_cell? wa _ h)).trans h
theorem Ck.leaf {T:Tr} (h:Ck V r T) {i:Nat} (hi:i<T.Ls.length):CJ (V.tx (T.ks[i]'(by rw[h.len];exact hi))) T.Ls[i] (1024-szL T.Ls[i]):=by
 rw[h.page i (by rw[h.len];exact hi) hi];exact R7 (h.ok.ok _ (List.getElem_mem hi)) (h.ok.fit _ (List.getElem_mem hi))
set_option maxHeartbeats 1000000
theorem SZ (hT:Tt bt bp r w) (h:Tw bp bd bm N s up cm V w) {T:Tr} (hA:Ck V r T) (B1 B2 B3 B4 C:Nat) (key:ByteArray) (v:Value) (h1:Ai B1 (.pointer (some ⟨bt,0,none⟩)) w) (h2:w.cell? ⟨B2,1,none⟩=some v) (h4:Ai B4 (.string key) w) (hv:Ao C v (At T.ks) w) (i:Nat) (hi:i+1<T.Ls.length):
  Calls Tryz.prog 166 #[.int .i64 (i:Nat),.pointer (some ⟨B1,0,none⟩),.pointer (some ⟨B2,0,none⟩),.pointer (some ⟨B3,0,none⟩),.pointer (some ⟨B4,0,none⟩)] w fun e w'=>e= .returned (.bool (bg (BT T.Ls[i+1]) key))/\Below w.heap.size w w':=by
 have hl:=hA.len;have hn:=hA.ok.len;obtain⟨b0,o0,k1,k2,k3,k4⟩:=hv.at (i:=i+1) (by rw[Ak];omega);rw[DN (by omega)]at k3;have hix:∀wx,(Instr.indexAt 69 v (.int .i64 ((i:Int)+1))).run Tryz.prog wx= .ok (.pointer (some ⟨b0,o0,none⟩)) wx:=k4 Tryz.underlying69 C6 DD ((i:Int)+1) (by omega);have hlow:=hA.low (T.ks[i+1]'(by omega)) (List.getElem_mem _);have HLf:Hid _:=hA.leaf hi;have HW:Hid (Tw bp bd bm N s up cm V w.drew):=h.drew;obtain⟨K,hK⟩:∃K,T.ks[i+1]'(by omega)=K:=⟨_,rfl⟩;simp only[hK]at k3 hlow HLf;obtain⟨L,hLL⟩:∃L,T.Ls[i+1]=L:=⟨_,rfl⟩;simp only[hLL]at HLf;rw[hLL];have HS:Hid (w.drew.cell? ⟨B1,0,none⟩=some (.pointer (some ⟨bt,0,none⟩))/\w.drew.cell? ⟨bt,0,none⟩=some (.pointer (some ⟨bp,0,none⟩))/\w.drew.cell? ⟨B2,1,none⟩=some v/\w.drew.cell? ⟨b0,o0,none⟩=some (.int .i64 (K:Nat))):=⟨h1.cell,hT.cp,h2,k3⟩;have HB0:Hid (Below w.heap.size w w.drew):=(Below.refl _ w).drew;have HK:Hid (Ai B4 (.string key) w):=h4;have hwr:IntKind.i64.wrap ((i:Int)+1)=(i:Int)+1:=by simp[IntKind.wrap,IntKind.signed,IntKind.bits];omega
 clear hK hLL hA hT h hv k1 k2 k3 k4 h1 h2 h4;go_enter Tryz.func166,Tryz.ntmps166;go_wp2_with fail
 go_region_held3 (fun wx=>wx.cell? ⟨B1,0,none⟩=some (.pointer (some ⟨bt,0,none⟩))/\wx.cell? ⟨bt,0,none⟩=some (.pointer (some ⟨bp,0,none⟩))/\wx.cell? ⟨B2,1,none⟩=some v/\wx.cell? ⟨b0,o0,none⟩=some (.int .i64 (K:Nat))) (first|exact HS.out|exact HS1.out)
  (first|(go_at_call 167;refine(Iq HW.out K hlow.2.1 hlow.2.2).mono ?_;rintro _ w1 ⟨rfl,hb1⟩;have HS1:Hid (w1.cell? ⟨B1,0,none⟩=some (.pointer (some ⟨bt,0,none⟩))/\w1.cell? ⟨bt,0,none⟩=some (.pointer (some ⟨bp,0,none⟩))/\w1.cell? ⟨B2,1,none⟩=some v/\w1.cell? ⟨b0,o0,none⟩=some (.int .i64 (K:Nat))):=⟨Ae hb1 HS.out.1,Ae hb1 HS.out.2.1,Ae hb1 HS.out.2.2.1,Ae hb1 HS.out.2.2.2⟩;have HB1:Hid (Below w.heap.size w w1):=HB0.out.trans (hb1.mono HB0.out.size);clear hb1))
 clear HS HS1 HB0;have HK1:Hid (w1.drew.cell? ⟨B4,0,none⟩=some (.string key)):=Ae HB1.out.drew HK.out.cell;have HB2:Hid (Below w.heap.size w w1.drew):=HB1.out.drew;go_wp2_with fail
 go_region_held3 (fun wx=>wx.cell? ⟨B4,0,none⟩=some (.string key)) (first|exact HK1.out|exact HK2.out)
  (first|(go_at_call 168;refine(Qv HLf.out _).mono ?_;rintro _ w2 ⟨rfl,hb2⟩;have HK2:Hid (w2.cell? ⟨B4,0,none⟩=some (.string key)):=Ae hb2 HK1.out;have HB3:Hid (Below w.heap.size w w2):=HB2.out.trans (hb2.mono HB2.out.size);clear hb2))
 go_wp2;go_ret;exact⟨rfl,HB3.out⟩
end
structure DX (T:Tr) (key:ByteArray) (l:Nat) (txt:ByteArray) (a b:Nat):Prop where
 lt:l<T.Ls.length
 txt:txt=Al T.Ls[l]
 find:∃j,JK T.Ls[l] key j a b
 left:∀i,0<i->i<=l->∀hi:i<T.Ls.length,bl key (BT T.Ls[i])=false
 right:∀i,l<i->∀hi:i<T.Ls.length,bl key (BT T.Ls[i])=true
def El (T:Tr) (key:ByteArray) (l:Nat) (txt:ByteArray) (a b:Nat):Prop:=(T.Ls=[]/\l=0/\txt=⟨#[]⟩/\a=0/\b=0)\/DX T key l txt a b
def Vq (w0:World) (T:Tr) (key:ByteArray) (e:Ending) (w':World):Prop:=∃v l txt a b,e= .returned (.tuple #[.agg #[.int .i64 (T.top:Nat),v,.int .i64 (l:Nat),.string txt,.int .i64 (a:Nat),.int .i64 (b:Nat)],.nilIface])/\El T key l txt a b/\Ao w0.heap.size v (At T.ks) w'/\Below w0.heap.size w0 w'
theorem Om {Ls:List (List Pr)} (h:BC Ls) {i j:Nat} (hij:i<j) (hj:j<Ls.length):bl (BT (Ls[i]'(by omega))) (BT Ls[j])=true:=by
 have hi:i<Ls.length:=by omega
 have e1:=h.ne _ (List.getElem_mem hi);have e2:=h.ne _ (List.getElem_mem hj);obtain⟨x,r1,hx⟩:=List.exists_cons_of_ne_nil e1;obtain⟨y,r2,hy⟩:=List.exists_cons_of_ne_nil e2;rw[hx,hy];show bl x.k y.k=true;have hs:=h.sorted;have d1:Ls=Ls.take j++Ls.drop j:=(List.take_append_drop j Ls).symm;rw[d1,List.flatten_append,List.pairwise_append]at hs;refine hs.2.2 x ?_ y ?_
 ·rw[List.mem_flatten]
  exact⟨Ls[i],by rw[List.mem_take_iff_getElem];exact⟨i,by omega,rfl⟩,by rw[hx];simp⟩
 ·rw[List.mem_flatten]
  have hmem:Ls[j]∈Ls.drop j:=by
   have e:=List.drop_eq_getElem_cons hj;rw[e];exact List.mem_cons_self
  exact⟨Ls[j],hmem,by rw[hy];simp⟩
section
variable {bt bp bd bm N r:Nat} {s:St} {up:Nat->Bool} {cm:Int} {V:Pst} {w:World}
structure Cj (B:Nat) (l:List Value) (w:World):Prop where
 cell:∀i (hi:i<l.length),w.cell? ⟨B,i,none⟩=some l[i]
 free:∀i,w.frozen? ⟨B,i,none⟩=false
 len:l.length=6
theorem Cj.lt {B:Nat} {l:List Value} {w:World} (h:Cj B l w):B<w.heap.size:=World.block_lt_of_cell? w _ (h.cell 0 (by rw[h.len];omega))
theorem Cj.block {B:Nat} {l:List Value} {w w':World} (h:Cj B l w) (hb:w'.heap[B]? =w.heap[B]?):Cj B l w':=
 ⟨fun i hi=>by have:=h.cell i hi;simp only[World.cell?]at this ⊢;rw[hb];exact this,fun i=>by have:=h.free i;simp only[World.frozen?]at this ⊢;rw[hb];exact this,h.len⟩
theorem Cj.below {B:Nat} {l:List Value} {w w':World} (h:Cj B l w) (hb:Below w.heap.size w w'):Cj B l w':=h.block (hb.block _ h.lt)
theorem Cj.set {B:Nat} {l:List Value} {w:World} (h:Cj B l w) (i:Nat) (v:Value):Cj B (l.set i v) (w.setCell ⟨B,i,none⟩ v):=by
 refine⟨fun j hj=> ?_,fun j=>by rw[World.frozen?_setCell];exact h.free j,by rw[List.length_set];exact h.len⟩;rw[List.length_set]at hj
 by_cases e:i=j
 ·subst e
  rw[World.cell?_setCell_same _ _ _ (h.cell i hj)];simp
 ·rw[World.cell?_setCell_other _ _ _ _ (fun e'=>e (by cases e';rfl)),h.cell j hj];simp[e]
theorem RK {w:World} {B:Nat} {a b c d e f:Value} (h:Cj B [a,b,c,d,e,f] w):(loadVar 204 ⟨B,0,none⟩).run Tryz.prog w= .ok (.agg #[a,b,c,d,e,f]) w:=
 run_loadVar_mid (P:=Tryz.prog) w B 0 204 [a,b,c,d,e,f] _ (fun j v hv=>by
  have hj:j< [a,b,c,d,e,f].length:=(List.getElem?_eq_some_iff.1 hv).1;have:=h.cell j hj;rw[Nat.zero_add,this];rw[List.getElem?_eq_getElem hj]at hv;exact hv) Tryz.underlying204 rfl (by kernel_rfl)
theorem RM {w:World} {B:Nat} {v:Value} (h:w.cell? ⟨B,0,none⟩=some v):(loadVar 43 ⟨B,0,none⟩).run Tryz.prog w= .ok v w:=by
 simp[loadVar,Tryz.isAgg43,Tryz.sizeOf43,h,go_sem]
theorem Ao.far {B C o:Nat} {v u:Value} {xs:List Value} {w:World} (h:Ao B v xs w) (hC:C<B):Ao B v xs (w.setCell ⟨C,o,none⟩ u):=h.only (Aa.set C o u w) (fun _ e=>by cases e;exact hC)
theorem Ao.six4 {B:Nat} {v a b c d e f:Value} {xs:List Value} {w:World} (h:Ao (B+1+1+1+1) v xs w):Ao (B+1+1+1+1) v xs (w.setCells (B+1+1) 0 #[a,b,c,d,e,f].toList):=
 ((((((h.far (C:=B+1+1) (o:=0) (u:=a) (by omega)).far (C:=B+1+1) (o:=1) (u:=b) (by omega)).far (C:=B+1+1) (o:=2) (u:=c) (by omega)).far (C:=B+1+1) (o:=3) (u:=d) (by omega)).far (C:=B+1+1) (o:=4) (u:=e) (by omega)).far (C:=B+1+1) (o:=5) (u:=f) (by omega))
theorem Cj.range {B:Nat} {l:List Value} {w:World} (h:Cj B l w):w.rangeAt B 0 l:=fun j v hv=>by
 have hj:j<l.length:=(List.getElem?_eq_some_iff.1 hv).1;rw[Nat.zero_add,h.cell j hj];rw[List.getElem?_eq_getElem hj]at hv;exact hv
theorem Cj.there {B:Nat} {l:List Value} {w:World} (h:Cj B l w):w.there B 0 6:=fun j hj=>by
 rw[Nat.zero_add,h.cell j (by rw[h.len];exact hj)];exact⟨rfl,h.free j⟩
structure SkE (w0:World) (bt:Nat) (key:ByteArray) (L:List Value) (w:World):Prop where
 t:Ai w0.heap.size (.pointer (some ⟨bt,0,none⟩)) w
 k:Ai (w0.heap.size+1) (.string key) w
 s:Cj (w0.heap.size+1+1) L w
 e:Ai (w0.heap.size+1+1+1) .nilIface w
 below:Below w0.heap.size w0 w
theorem SkE.step {w0 w wx:World} {bt:Nat} {key:ByteArray} {L:List Value} (h:SkE w0 bt key L w) (hb:Below w.heap.size w wx):SkE w0 bt key L wx:=
 ⟨h.t.below hb,h.k.below hb,h.s.below hb,h.e.below hb,h.below.trans (hb.mono h.below.size)⟩
theorem SkE.drew {w0 w:World} {bt:Nat} {key:ByteArray} {L:List Value} (h:SkE w0 bt key L w):SkE w0 bt key L w.drew:=h.step (Below.refl _ w).drew
theorem Ai.far {B C o:Nat} {v u:Value} {w:World} (h:Ai B v w) (hne:B≠C):Ai B v (w.setCell ⟨C,o,none⟩ u):=
 ⟨by rw[World.cell?_setCell_other _ _ _ _ (fun e=>hne (by cases e;rfl))];exact h.cell,by rw[World.frozen?_setCell];exact h.free⟩
theorem SkE.setS {w0 w:World} {bt:Nat} {key:ByteArray} {L:List Value} (h:SkE w0 bt key L w) (i:Nat) (v:Value):SkE w0 bt key (L.set i v) (w.setCell ⟨w0.heap.size+1+1,i,none⟩ v):=
 ⟨h.t.far (by omega),h.k.far (by omega),h.s.set i v,h.e.far (by omega),h.below.setCell (by show w0.heap.size<=w0.heap.size+1+1;omega) _⟩
theorem Cj.far {B C o:Nat} {l:List Value} {u:Value} {w:World} (h:Cj B l w) (hne:B≠C):Cj B l (w.setCell ⟨C,o,none⟩ u):=
 ⟨fun i hi=>by rw[World.cell?_setCell_other _ _ _ _ (fun e=>hne (by cases e;rfl))];exact h.cell i hi,fun i=>by rw[World.frozen?_setCell];exact h.free i,h.len⟩
theorem SkE.setE {w0 w:World} {bt:Nat} {key:ByteArray} {L:List Value} (h:SkE w0 bt key L w):SkE w0 bt key L (w.setCell ⟨w0.heap.size+1+1+1,0,none⟩ .nilIface):=
 ⟨h.t.far (by omega),h.k.far (by omega),h.s.far (by omega),h.e.set _,h.below.setCell (by show w0.heap.size<=w0.heap.size+1+1+1;omega) _⟩
theorem SkE.six {w0 w:World} {bt:Nat} {key:ByteArray} {a b c d e f:Value} (h:SkE w0 bt key [a,b,c,d,e,f] w):SkE w0 bt key [a,b,c,d,e,f] (w.setCells (w0.heap.size+1+1) 0 #[a,b,c,d,e,f].toList):=
 ((((((h.setS 0 a).setS 1 b).setS 2 c).setS 3 d).setS 4 e).setS 5 f)
theorem Mq {w0 w:World} {bt:Nat} {key:ByteArray} {a b c d e f v:Value} {xs:List Value} (h:SkE w0 bt key [a,b,c,d,e,f] w/\Ao (w0.heap.size+1+1+1+1) v xs w):SkE w0 bt key [a,b,c,d,e,f] (w.setCells (w0.heap.size+1+1) 0 #[a,b,c,d,e,f].toList)/\Ao (w0.heap.size+1+1+1+1) v xs (w.setCells (w0.heap.size+1+1) 0 #[a,b,c,d,e,f].toList):=⟨h.1.six,h.2.six4⟩
theorem SkE.new (w:World) (bt:Nat) (key:ByteArray):SkE w bt key [.int .i64 0,.slice none 0 0,.int .i64 0,.string ⟨#[]⟩,.int .i64 0,.int .i64 0] ((((w.alloc (.cells #[.pointer (some ⟨bt,0,none⟩)] 60)).alloc (.cells #[.string key] 9)).alloc (.cells #[.int .i64 0,.slice none 0 0,.int .i64 0,.string ⟨#[]⟩,.int .i64 0,.int .i64 0] 204)).alloc (.cells #[.nilIface] 43)):=by
 have n1:=Ai.new w (.pointer (some ⟨bt,0,none⟩)) 60;have n2:=Ai.new (w.alloc (.cells #[.pointer (some ⟨bt,0,none⟩)] 60)) (.string key) 9;rw[World.size_alloc]at n2;obtain⟨W,hW⟩:∃W,(w.alloc (.cells #[.pointer (some ⟨bt,0,none⟩)] 60)).alloc (.cells #[.string key] 9)=W:=⟨_,rfl⟩;have hs:W.heap.size=w.heap.size+1+1:=by rw[<-hW,World.size_alloc,World.size_alloc]
 have n1':=n1.below ((Below.refl _ _).alloc (o:= .cells #[.string key] 9) (Nat.le_refl _));have hb:Below w.heap.size w W:=by rw[<-hW];exact((Below.refl _ w).alloc (Nat.le_refl _) _).alloc (by simp) _
 rw[hW]at n1' n2 ⊢;have hn:(W.alloc (.cells #[.int .i64 0,.slice none 0 0,.int .i64 0,.string ⟨#[]⟩,.int .i64 0,.int .i64 0] 204)).heap[W.heap.size]? =some (.cells #[.int .i64 0,.slice none 0 0,.int .i64 0,.string ⟨#[]⟩,.int .i64 0,.int .i64 0] 204):=heap_alloc_new W _
 have v6:Cj W.heap.size [.int .i64 0,.slice none 0 0,.int .i64 0,.string ⟨#[]⟩,.int .i64 0,.int .i64 0] (W.alloc (.cells #[.int .i64 0,.slice none 0 0,.int .i64 0,.string ⟨#[]⟩,.int .i64 0,.int .i64 0] 204)):=by
  refine⟨fun i hi=> ?_,fun i=>by simp only[World.frozen?,hn];simp,rfl⟩;simp only[World.cell?,hn];simp only[List.length_cons,List.length_nil]at hi;rcases i with _|_|_|_|_|_|i<;>first|rfl|omega
 obtain⟨W2,hW2⟩:∃W2,W.alloc (.cells #[.int .i64 0,.slice none 0 0,.int .i64 0,.string ⟨#[]⟩,.int .i64 0,.int .i64 0] 204)=W2:=⟨_,rfl⟩;have hb2:Below W.heap.size W W2:=by rw[<-hW2];exact(Below.refl _ W).alloc (Nat.le_refl _) _
 have hs2:W2.heap.size=w.heap.size+1+1+1:=by rw[<-hW2,World.size_alloc,hs]
 rw[hW2]at v6 ⊢;have hb3:Below W2.heap.size W2 (W2.alloc (.cells #[.nilIface] 43)):=(Below.refl _ _).alloc (Nat.le_refl _) _;have n4:=Ai.new W2 .nilIface 43;rw[hs]at v6;rw[hs2]at n4;exact⟨(n1'.below hb2).below hb3,(n2.below hb2).below hb3,v6.below hb3,n4,(hb.trans (hb2.mono hb.size)).trans (hb3.mono (by omega))⟩
structure SkA (w0:World) (bt bp bd bm N r:Nat) (s:St) (up:Nat->Bool) (cm:Int) (V:Pst) (T:Tr) (key:ByteArray) (v:Value) (L:List Value) (w:World):Prop where
 e:SkE w0 bt key L w
 v:Ao (w0.heap.size+1+1+1+1) v (At T.ks) w
 t:Tt bt bp r w
 p:Tw bp bd bm N s up cm V w
 lt:bt<w0.heap.size/\bp<w0.heap.size/\bm<w0.heap.size/\bd<w0.heap.size
section
variable {w0 wx:World} {T:Tr} {key:ByteArray} {v:Value} {L:List Value}
theorem SkA.step (h:SkA w0 bt bp bd bm N r s up cm V T key v L w) (hb:Below w.heap.size w wx):SkA w0 bt bp bd bm N r s up cm V T key v L wx:=⟨h.e.step hb,h.v.below hb,h.t.below hb,h.p.below hb,h.lt⟩
theorem SkA.drew (h:SkA w0 bt bp bd bm N r s up cm V T key v L w):SkA w0 bt bp bd bm N r s up cm V T key v L w.drew:=h.step (Below.refl _ w).drew
theorem SkA.setS (h:SkA w0 bt bp bd bm N r s up cm V T key v L w) (i:Nat) (u:Value):SkA w0 bt bp bd bm N r s up cm V T key v (L.set i u) (w.setCell ⟨w0.heap.size+1+1,i,none⟩ u):=by
 obtain⟨l1,l2,l3,l4⟩:=h.lt;exact⟨h.e.setS i u,h.v.far (by omega),h.t.only (Aa.set _ i u w) (by omega),h.p.only (Aa.set _ i u w) (by omega) (by omega) (by omega),h.lt⟩
theorem SkA.setE (h:SkA w0 bt bp bd bm N r s up cm V T key v L w):SkA w0 bt bp bd bm N r s up cm V T key v L (w.setCell ⟨w0.heap.size+1+1+1,0,none⟩ .nilIface):=by
 obtain⟨l1,l2,l3,l4⟩:=h.lt;exact⟨h.e.setE,h.v.far (by omega),h.t.only (Aa.set _ 0 _ w) (by omega),h.p.only (Aa.set _ 0 _ w) (by omega) (by omega) (by omega),h.lt⟩
end
set_option maxHeartbeats 2000000
theorem Gq (hT:Tt bt bp r w) (h:Tw bp bd bm N s up cm V w) {T:Tr} (hA:Ck V r T) (key:ByteArray):
  Calls Tryz.prog 116 #[.pointer (some ⟨bt,0,none⟩),.string key] w fun e w'=>Vq w T key e w':=by
 have HA:Hid _:=hA;have HT:Hid _:=hT;have HW:Hid _:=h;have H4:Hid (bt<w.heap.size/\bp<w.heap.size/\bm<w.heap.size/\bd<w.heap.size):=⟨hT.lt,h.lt.1,h.lt.2.1,h.lt.2.2⟩;have hz:=Tryz.zeroValue204;have hz2:=Tryz.zeroValue43;have hmf:∀(fn:Fn) (first cap:Array Value) (w:World),(Instr.makeFunc fn first cap).run Tryz.prog w= .ok (.func fn first cap) w:=fun _ _ _ _=>rfl;clear hA hT h;go_enter Tryz.func116,Tryz.ntmps116;go_wp2_with fail;have HE0:Hid _:=SkE.new w bt key;obtain⟨W,hW⟩:∃W,(((w.alloc (.cells #[.pointer (some ⟨bt,0,none⟩)] 60)).alloc (.cells #[.string key] 9)).alloc (.cells #[.int .i64 0,.slice none 0 0,.int .i64 0,.string ⟨#[]⟩,.int .i64 0,.int .i64 0] 204)).alloc (.cells #[.nilIface] 43)=W:=⟨_,rfl⟩;rw[hW]at HE0;rw[hW];clear hW;have HT0:Hid (Tt bt bp r W):=HT.out.below HE0.out.below;have HW0:Hid (Tw bp bd bm N s up cm V W):=HW.out.below HE0.out.below;refine(JF HT0.out HW0.out HA.out).mono ?_;rintro _ w1 ⟨v,rfl,hv1,hb1⟩;have HE1:Hid _:=HE0.out.step hb1;have HT1:Hid _:=HT0.out.below hb1;have HW1:Hid _:=HW0.out.below hb1;have HV1:Hid (Ao w.heap.size v (At T.ks) w1):=hv1.mono (by have:=HE0.out.below.size;omega);have HV1':Hid (Ao (w.heap.size+1+1+1+1) v (At T.ks) w1):=hv1.mono (by have:=HE0.out.e.lt;omega);clear hv1 hb1 HE0 HT0 HW0 HT HW;obtain⟨a9,cap9,hv9,_⟩:=HV1.out.is;obtain⟨n,hn⟩:∃n,T.ks.length=n:=⟨_,rfl⟩;rw[Ak,hn]at hv9;subst hv9;have HN:Hid (T.ks.length=n):=hn;have hkl:n=T.Ls.length:=by rw[<-hn];exact HA.out.len
 clear hn;have E2:=(HE1.out.setS 0 (.int .i64 (T.top:Nat))).setS 1 (.slice a9 n cap9);have E3:=E2.setE;have HE3:Hid (SkE w bt key [.int .i64 (T.top:Nat),.slice a9 n cap9,.int .i64 0,.string ⟨#[]⟩,.int .i64 0,.int .i64 0] _):=E3;have d0:=HE1.out.s.cell 0 (by simp);have d1:=HE1.out.s.cell 1 (by simp);have g0:=HE1.out.s.free 0;have g1:=HE1.out.s.free 1;have d3:=E2.e.cell;have g3:=E2.e.free;have d4:=E3.e.cell;have d5:=E3.s.cell 1 (by simp);have HB3:Hid (Aa (fun b=>b<w.heap.size+1+1+1+1/\w.heap.size<=b) w1 (((w1.setCell ⟨w.heap.size+1+1,0,none⟩ (.int .i64 (T.top:Nat))).setCell ⟨w.heap.size+1+1,1,none⟩ (.slice a9 n cap9)).setCell ⟨w.heap.size+1+1+1,0,none⟩ .nilIface)):=((Aa.set _ 0 _ w1).mono (fun b e=>by subst e;omega)).trans (((Aa.set _ 1 _ _).mono (fun b e=>by subst e;omega)).trans ((Aa.set _ 0 _ _).mono (fun b e=>by subst e;omega)) (fun b e=> .inl e)) (fun b e=> .inl e);have hlt:=HT1.out.lt;have hlw:=HW1.out.lt;have HNB:Hid (bt<w.heap.size/\bp<w.heap.size/\bm<w.heap.size/\bd<w.heap.size):=H4;have HT3:Hid (Tt bt bp r _):=HT1.out.only HB3.out (fun e=>by have:=HNB.out;omega);have HW3:Hid (Tw bp bd bm N s up cm V _):=HW1.out.only HB3.out (fun e=>by have:=HNB.out;omega) (fun e=>by have:=HNB.out;omega) (fun e=>by have:=HNB.out;omega);have HV3:Hid (Ao (w.heap.size+1+1+1+1) (.slice a9 n cap9) (At T.ks) _):=HV1'.out.only HB3.out (fun b e=>e.1);clear E2 E3 HE1 HT1 HW1 HV1 HV1' HB3;rcases Nat.eq_zero_or_pos T.Ls.length with h0|h0
 ·obtain rfl:n=0:=by omega
  have HL0:Hid (T.Ls=[]):=List.length_eq_zero_iff.1 h0;clear h0 hkl;go_wp2_with fail;obtain⟨W3,hW3⟩:∃W3,(((w1.setCell ⟨w.heap.size+1+1,0,none⟩ (.int .i64 (T.top:Nat))).setCell ⟨w.heap.size+1+1,1,none⟩ (.slice a9 0 cap9)).setCell ⟨w.heap.size+1+1+1,0,none⟩ .nilIface)=W3:=⟨_,rfl⟩;rw[hW3]at HE3 HV3;rw[hW3];clear hW3 d0 d1 g0 g1 d3 g3 d4 d5 HT3 HW3;refine wp_region_held_drew (S:=fun wx=>SkE w bt key [.int .i64 (T.top:Nat),.slice a9 0 cap9,.int .i64 0,.string ⟨#[]⟩,.int .i64 0,.int .i64 0] wx/\Ao (w.heap.size+1+1+1+1) (.slice a9 0 cap9) (At T.ks) wx) (by kernel_rfl) ⟨HE3.out.drew,HV3.out.drew⟩ ?_;intro g0;refine wpAnyH_take (i:=0) (oi:={dst:=some 21,op:=Op.load 204 (Operand.tmp 4),type:=204,pos:= "body.go:50",after:= #[],guard:=none}) (v:= .agg #[.int .i64 (T.top:Nat),.slice a9 0 cap9,.int .i64 0,.string ⟨#[]⟩,.int .i64 0,.int .i64 0]) rfl (by kernel_rfl) (by kernel_rfl) (by kernel_rfl) (fun _ _ _ h=>h) (yieldsIf_load_mid (by rfl) 204 _ rfl _ 0 rfl [.int .i64 (T.top:Nat),.slice a9 0 cap9,.int .i64 0,.string ⟨#[]⟩,.int .i64 0,.int .i64 0] _ (fun wx h=>h.1.s.range) Tryz.underlying204 rfl (by kernel_rfl)) g0 ?_;simp only[Act.put,List.setIfInBounds_toArray,List.set_cons_zero,List.set_cons_succ];refine wpAnyH_take (i:=1) (oi:={dst:=some 22,op:=Op.load 43 (Operand.tmp 5),type:=43,pos:= "body.go:50",after:= #[],guard:=none}) (v:= .nilIface) rfl (by kernel_rfl) (by kernel_rfl) (by kernel_rfl) (fun _ _ _ h=>h) (Or.inl ⟨by rfl,fun wx h=>by have h8:=h.1.e.cell;go_simp⟩) g0 ?_;simp only[Act.put,List.setIfInBounds_toArray,List.set_cons_zero,List.set_cons_succ];refine wpAnyH_ready (rs:=[2]) (by kernel_rfl) (by decide) (AllReadyH.cons rfl (fun K hK=> ?_) AllReadyH.nil);rw[if_pos (by rfl)];refine wp_store_mid 204 _ _ rfl _ 0 #[.int .i64 (T.top:Nat),.slice a9 0 cap9,.int .i64 0,.string ⟨#[]⟩,.int .i64 0,.int .i64 0] rfl rfl g0.1.s.there (by kernel_rfl) (by simp[Value.oneCell']) ?_;have g1:=Mq g0;generalize World.setCells W3.drew (w.heap.size+1+1) 0 (#[.int .i64 (T.top:Nat),.slice a9 0 cap9,.int .i64 0,.string ⟨#[]⟩,.int .i64 0,.int .i64 0]:Array Value).toList=W4 at g1 ⊢;refine hK.out _ _ g1 (fun _=> ?_);clear hK K;simp only[Act.put];refine wpAnyH_ready (rs:=[3]) (by kernel_rfl) (by decide) (AllReadyH.cons rfl (fun K hK=> ?_) AllReadyH.nil);rw[if_pos (by rfl)];have h8:=g1.1.e.cell;have h9:=g1.1.e.free
  go_simp
  have g2:=And.intro (SkE.setE g1.1) (g1.2.far (C:=w.heap.size+1+1+1) (o:=0) (u:= .nilIface) (by omega));generalize W4.setCell ⟨w.heap.size+1+1+1,0,none⟩ Value.nilIface=W5 at g2 ⊢;refine hK.out _ _ g2 (fun _=> ?_);clear hK K h8 h9
  (try simp only[Act.put])
  refine wpAnyH_done (by kernel_rfl) ?_ _;have HX2:Hid _:=g2;clear g0 g1 g2;go_wp2_with fail
  (try simp only[Exit.inBlock,Exit.then])
  exact bodyPost_ret (DH Tryz.results116 _ _ _ _ rfl rfl (RK HX2.out.1.s) (RM HX2.out.1.e.cell)) rfl ⟨_,0,_,0,0,rfl,.inl ⟨HL0.out,rfl,rfl,rfl,rfl⟩,HX2.out.2.mono (by omega),HX2.out.1.below⟩
 ·obtain⟨m,hm⟩:∃m,n=m+1:=⟨n-1,by omega⟩
  have HKL:Hid (m+1=T.Ls.length):=by rw[<-hm];exact hkl
  clear hkl h0;subst hm;have hm3:m<2000:=by have:=HA.out.ok.len;have:=HKL.out;omega
  have hwr:IntKind.i64.wrap (((m+1:Nat):Int)-1)=(m:Nat):=by simp[IntKind.wrap,IntKind.signed,IntKind.bits];omega
  have HAA:Hid (SkA w bt bp bd bm N r s up cm V T key (.slice a9 (m+1) cap9) [.int .i64 (T.top:Nat),.slice a9 (m+1) cap9,.int .i64 0,.string ⟨#[]⟩,.int .i64 0,.int .i64 0] _):=⟨HE3.out,HV3.out,HT3.out,HW3.out,HNB.out⟩;clear HT3 HW3 HV3 HE3;have hne:¬(((m+1:Nat):Int)=0):=by omega
  go_wp2_with fail;obtain⟨W3,hW3⟩:∃W3,(((w1.setCell ⟨w.heap.size+1+1,0,none⟩ (.int .i64 (T.top:Nat))).setCell ⟨w.heap.size+1+1,1,none⟩ (.slice a9 (m+1) cap9)).setCell ⟨w.heap.size+1+1+1,0,none⟩ .nilIface)=W3:=⟨_,rfl⟩;rw[hW3]at HAA;rw[hW3];clear hW3 d0 d1 g0 g1 d3 g3 d4 d5;obtain⟨p,hp⟩:∃p:Nat->Bool,p=fun i=>bg (BT ((T.Ls[i+1]?).getD [])) key:=⟨_,rfl⟩;have hp1:∀i (hi:i+1<T.Ls.length),p i=bg (BT T.Ls[i+1]) key:=fun i hi=>by rw[hp];simp[List.getElem?_eq_getElem hi]
  have hmon:∀i j,i<=j->j<m->p i=true->p j=true:=by
   intro i j hij hj h1;have hk:=HKL.out;rw[hp1 i (by omega),LV]at h1;rw[hp1 j (by omega),LV];rcases Nat.eq_or_lt_of_le hij with rfl|hlt
   ·exact h1
   ·exact Cw h1 (Om HA.out.ok (i:=i+1) (j:=j+1) (by omega) (by omega))
  have hcb:∀i (_:i<m) (wx:World),Below W3.heap.size W3 wx->Calls Tryz.prog 166 (#[.int .i64 (i:Nat)]++ #[.pointer (some ⟨w.heap.size,0,none⟩),.pointer (some ⟨w.heap.size+1+1,0,none⟩),.pointer (some ⟨w.heap.size+1+1+1,0,none⟩),.pointer (some ⟨w.heap.size+1,0,none⟩)]) wx fun e w'=>e= .returned (.bool (p i))/\Below W3.heap.size W3 w':=by
   intro i hi wx hb;have hx:=HAA.out.step hb;have hk:=HKL.out;rw[hp1 i (by omega)];refine(SZ hx.t hx.p HA.out w.heap.size (w.heap.size+1+1) (w.heap.size+1+1+1) (w.heap.size+1) _ key _ hx.e.t (hx.e.s.cell 1 (by simp)) hx.e.k hx.v i (by omega)).mono ?_;rintro e w' ⟨rfl,hb'⟩;exact⟨rfl,hb.trans (hb'.mono hb.size)⟩
  refine(NC m (by omega) p hmon _ (enters_of Tryz.func166 (by kernel_rfl) rfl) hcb W3 (Below.refl _ W3)).mono ?_;rintro _ w2 ⟨l,rfl,hsr,hb2⟩;have HSR:Hid (Pi m p l):=hsr;have HP1:Hid (∀i (hi:i+1<T.Ls.length),p i=bg (BT T.Ls[i+1]) key):=hp1;have X1:=HAA.out.step hb2;have HX1:Hid (SkA w bt bp bd bm N r s up cm V T key (.slice a9 (m+1) cap9) [.int .i64 (T.top:Nat),.slice a9 (m+1) cap9,.int .i64 (l:Nat),.string ⟨#[]⟩,.int .i64 0,.int .i64 0] _):=X1.setS 2 (.int .i64 (l:Nat));have e0:=X1.e.s.cell 2 (by simp);have e1:=X1.e.s.free 2;have e2:=HX1.out.e.e.cell;have hlm:=hsr.le;clear X1 hcb hmon hp1 hp hsr hb2 HAA;go_wp2_with fail;obtain⟨W4,hW4⟩:∃W4,w2.setCell ⟨w.heap.size+1+1,2,none⟩ (.int .i64 (l:Nat))=W4:=⟨_,rfl⟩;rw[hW4]at HX1;rw[hW4];clear hW4 e0 e1 e2;have hll:l<T.Ls.length:=by have:=HKL.out;omega
  have hlk:l<T.ks.length:=by rw[HA.out.len];exact hll
  obtain⟨b0,o0,k1,k2,k3,k4⟩:=HX1.out.v.at (i:=l) (by rw[Ak];exact hlk);rw[DN hlk]at k3;have hix:∀wx,(Instr.indexAt 69 (.slice a9 (m+1) cap9) (.int .i64 (l:Nat))).run Tryz.prog wx= .ok (.pointer (some ⟨b0,o0,none⟩)) wx:=k4 Tryz.underlying69 C6 DD (l:Nat) rfl;have hlow:=HA.out.low T.ks[l] (List.getElem_mem _);have HLf:Hid _:=HA.out.leaf hll;obtain⟨K,hK⟩:∃K,T.ks[l]=K:=⟨_,rfl⟩;simp only[hK]at k3 hlow HLf;obtain⟨TX,hTX⟩:∃TX,Al T.Ls[l]=TX:=⟨_,rfl⟩;have HTX:Hid (TX=Al T.Ls[l]):=hTX.symm;have HK1:Hid (w.heap.size+1+1+1+1<=b0):=k1;have HX2:Hid _:=HX1.out.drew;have HS:Hid ((fun wx=>wx.cell? ⟨w.heap.size,0,none⟩=some (.pointer (some ⟨bt,0,none⟩))/\wx.cell? ⟨w.heap.size+1+1,1,none⟩=some (.slice a9 (m+1) cap9)/\wx.cell? ⟨w.heap.size+1+1,2,none⟩=some (.int .i64 (l:Nat))/\wx.cell? ⟨b0,o0,none⟩=some (.int .i64 (K:Nat))) W4.drew):=⟨HX2.out.e.t.cell,HX2.out.e.s.cell 1 (by simp),HX2.out.e.s.cell 2 (by simp),k3⟩;clear hK k1 k2 k3 k4 HX1
  go_region_held3 (fun wx=>wx.cell? ⟨w.heap.size,0,none⟩=some (.pointer (some ⟨bt,0,none⟩))/\wx.cell? ⟨w.heap.size+1+1,1,none⟩=some (.slice a9 (m+1) cap9)/\wx.cell? ⟨w.heap.size+1+1,2,none⟩=some (.int .i64 (l:Nat))/\wx.cell? ⟨b0,o0,none⟩=some (.int .i64 (K:Nat))) (first|exact HS.out|exact HS1.out|exact HS2.out|exact HS3.out)
   (first|(go_at_call 169;refine(M4 HX2.out.t HX2.out.p K hlow.2.1 hlow.2.2 HLf.out).mono ?_;rw[hTX];rintro _ w3 ⟨rfl,hb3⟩;have X3:=HX2.out.step hb3;have Y3:=X3.setS 3 (.string TX);have HZ:Hid (SkA w bt bp bd bm N r s up cm V T key (.slice a9 (m+1) cap9) [.int .i64 (T.top:Nat),.slice a9 (m+1) cap9,.int .i64 (l:Nat),.string TX,.int .i64 0,.int .i64 0] _):=Y3.setE;have q0:=X3.e.s.cell 3 (by simp);have q1:=X3.e.s.free 3;have q2:=Y3.e.e.cell;have q3:=Y3.e.e.free;have kk:=Ae hb3 HS.out.2.2.2;have HS1:Hid ((fun wx=>wx.cell? ⟨w.heap.size,0,none⟩=some (.pointer (some ⟨bt,0,none⟩))/\wx.cell? ⟨w.heap.size+1+1,1,none⟩=some (.slice a9 (m+1) cap9)/\wx.cell? ⟨w.heap.size+1+1,2,none⟩=some (.int .i64 (l:Nat))/\wx.cell? ⟨b0,o0,none⟩=some (.int .i64 (K:Nat))) w3):=⟨X3.e.t.cell,X3.e.s.cell 1 (by simp),X3.e.s.cell 2 (by simp),kk⟩;have HS2:Hid ((fun wx=>wx.cell? ⟨w.heap.size,0,none⟩=some (.pointer (some ⟨bt,0,none⟩))/\wx.cell? ⟨w.heap.size+1+1,1,none⟩=some (.slice a9 (m+1) cap9)/\wx.cell? ⟨w.heap.size+1+1,2,none⟩=some (.int .i64 (l:Nat))/\wx.cell? ⟨b0,o0,none⟩=some (.int .i64 (K:Nat))) (w3.setCell ⟨w.heap.size+1+1,3,none⟩ (.string TX))):=⟨Y3.e.t.cell,Y3.e.s.cell 1 (by simp),Y3.e.s.cell 2 (by simp),(World.cell?_setCell_other _ _ _ _ (fun e=>by cases e;have:=HK1.out;omega)).trans kk⟩;have HS3:Hid ((fun wx=>wx.cell? ⟨w.heap.size,0,none⟩=some (.pointer (some ⟨bt,0,none⟩))/\wx.cell? ⟨w.heap.size+1+1,1,none⟩=some (.slice a9 (m+1) cap9)/\wx.cell? ⟨w.heap.size+1+1,2,none⟩=some (.int .i64 (l:Nat))/\wx.cell? ⟨b0,o0,none⟩=some (.int .i64 (K:Nat))) ((w3.setCell ⟨w.heap.size+1+1,3,none⟩ (.string TX)).setCell ⟨w.heap.size+1+1+1,0,none⟩ .nilIface)):=⟨HZ.out.e.t.cell,HZ.out.e.s.cell 1 (by simp),HZ.out.e.s.cell 2 (by simp),(World.cell?_setCell_other _ _ _ _ (fun e=>by cases e;have:=HK1.out;omega)).trans HS2.out.2.2.2⟩;clear X3 Y3 hb3 kk))
  obtain⟨W5,hW5⟩:∃W5,(w3.setCell ⟨w.heap.size+1+1,3,none⟩ (.string TX)).setCell ⟨w.heap.size+1+1+1,0,none⟩ .nilIface=W5:=⟨_,rfl⟩;rw[hW5]at HZ;rw[hW5];clear hW5 q0 q1 q2 q3 HS HS1 HS2 HS3 HX2 hix hlow HLf HK1 hTX;have q0:=HZ.out.e.s.cell 3 (by simp);have q1:=HZ.out.e.k.cell
  have HLl:Hid (CJ TX T.Ls[l] 0):=by
   rw[HTX.out];exact EG (HA.out.ok.ok _ (List.getElem_mem hll)) (Nat.le_trans (HA.out.ok.fit _ (List.getElem_mem hll)) (by omega))
  have HLL:Hid (l<T.Ls.length):=hll;clear hlk;go_wp2_with fail;refine(Sh HLl.out _).mono ?_;rintro _ w5 ⟨jj,a,b,rfl,hf,hb5⟩;have HF:Hid (JK (T.Ls[l]'HLL.out) key jj a b):=hf;have X5:=HZ.out.step hb5;have Y5:=X5.setS 4 (.int .i64 (a:Nat));have HY:Hid (SkA w bt bp bd bm N r s up cm V T key (.slice a9 (m+1) cap9) [.int .i64 (T.top:Nat),.slice a9 (m+1) cap9,.int .i64 (l:Nat),.string TX,.int .i64 (a:Nat),.int .i64 (b:Nat)] _):=Y5.setS 5 (.int .i64 (b:Nat));have r0:=X5.e.s.cell 4 (by simp);have r1:=X5.e.s.free 4;have r2:=Y5.e.s.cell 5 (by simp);have r3:=Y5.e.s.free 5;clear X5 Y5 hb5 hf q0 q1 HZ;go_wp2_with fail;obtain⟨W6,hW6⟩:∃W6,(w5.setCell ⟨w.heap.size+1+1,4,none⟩ (.int .i64 (a:Nat))).setCell ⟨w.heap.size+1+1,5,none⟩ (.int .i64 (b:Nat))=W6:=⟨_,rfl⟩;rw[hW6]at HY;rw[hW6];clear hW6 r0 r1 r2 r3;have HE6:Hid _:=HY.out.e;have HV6:Hid _:=HY.out.v
  have HSP:Hid (DX T key l TX a b):=by
   refine⟨HLL.out,HTX.out,⟨jj,HF.out⟩,?_,?_⟩
   ·intro i h0 hi hi2
    have:=HSR.out.no (i-1) (by omega);rw[HP1.out (i-1) (by omega),LV]at this;have e:i-1+1=i:=by omega
    simp only[e]at this;exact this
   ·intro i h0 hi2
    have:=HSR.out.yes (i-1) (by omega) (by have:=HKL.out;omega);rw[HP1.out (i-1) (by omega),LV]at this;have e:i-1+1=i:=by omega
    simp only[e]at this;exact this
  clear HY HF HLl;refine wp_region_held_drew (S:=fun wx=>SkE w bt key [.int .i64 (T.top:Nat),.slice a9 (m+1) cap9,.int .i64 (l:Nat),.string TX,.int .i64 (a:Nat),.int .i64 (b:Nat)] wx/\Ao (w.heap.size+1+1+1+1) (.slice a9 (m+1) cap9) (At T.ks) wx) (by kernel_rfl) ⟨HE6.out.drew,HV6.out.drew⟩ ?_;intro g0;refine wpAnyH_take (i:=0) (oi:={dst:=some 57,op:=Op.load 204 (Operand.tmp 4),type:=204,pos:= "body.go:64",after:= #[],guard:=none}) (v:= .agg #[.int .i64 (T.top:Nat),.slice a9 (m+1) cap9,.int .i64 (l:Nat),.string TX,.int .i64 (a:Nat),.int .i64 (b:Nat)]) rfl (by kernel_rfl) (by kernel_rfl) (by kernel_rfl) (fun _ _ _ h=>h) (yieldsIf_load_mid (by rfl) 204 _ rfl _ 0 rfl [.int .i64 (T.top:Nat),.slice a9 (m+1) cap9,.int .i64 (l:Nat),.string TX,.int .i64 (a:Nat),.int .i64 (b:Nat)] _ (fun wx h=>h.1.s.range) Tryz.underlying204 rfl (by kernel_rfl)) g0 ?_;simp only[Act.put,List.setIfInBounds_toArray,List.set_cons_zero,List.set_cons_succ];refine wpAnyH_take (i:=1) (oi:={dst:=some 58,op:=Op.load 43 (Operand.tmp 5),type:=43,pos:= "body.go:64",after:= #[],guard:=none}) (v:= .nilIface) rfl (by kernel_rfl) (by kernel_rfl) (by kernel_rfl) (fun _ _ _ h=>h) (Or.inl ⟨by rfl,fun wx h=>by have h8:=h.1.e.cell;go_simp⟩) g0 ?_;simp only[Act.put,List.setIfInBounds_toArray,List.set_cons_zero,List.set_cons_succ];refine wpAnyH_ready (rs:=[2]) (by kernel_rfl) (by decide) (AllReadyH.cons rfl (fun K hK=> ?_) AllReadyH.nil);rw[if_pos (by rfl)];refine wp_store_mid 204 _ _ rfl _ 0 #[.int .i64 (T.top:Nat),.slice a9 (m+1) cap9,.int .i64 (l:Nat),.string TX,.int .i64 (a:Nat),.int .i64 (b:Nat)] rfl rfl g0.1.s.there (by kernel_rfl) (by simp[Value.oneCell']) ?_;have g1:=Mq g0;generalize World.setCells W6.drew (w.heap.size+1+1) 0 (#[.int .i64 (T.top:Nat),.slice a9 (m+1) cap9,.int .i64 (l:Nat),.string TX,.int .i64 (a:Nat),.int .i64 (b:Nat)]:Array Value).toList=W4 at g1 ⊢;refine hK.out _ _ g1 (fun _=> ?_);clear hK K;simp only[Act.put];refine wpAnyH_ready (rs:=[3]) (by kernel_rfl) (by decide) (AllReadyH.cons rfl (fun K hK=> ?_) AllReadyH.nil);rw[if_pos (by rfl)];have h8:=g1.1.e.cell;have h9:=g1.1.e.free
  go_simp
  have g2:=And.intro (SkE.setE g1.1) (g1.2.far (C:=w.heap.size+1+1+1) (o:=0) (u:= .nilIface) (by omega));generalize W4.setCell ⟨w.heap.size+1+1+1,0,none⟩ Value.nilIface=W5 at g2 ⊢;refine hK.out _ _ g2 (fun _=> ?_);clear hK K h8 h9
  (try simp only[Act.put])
  refine wpAnyH_done (by kernel_rfl) ?_ _;have HX2:Hid _:=g2;clear g0 g1 g2;go_wp2_with fail
  (try simp only[Exit.inBlock,Exit.then])
  exact bodyPost_ret (DH Tryz.results116 _ _ _ _ rfl rfl (RK HX2.out.1.s) (RM HX2.out.1.e.cell)) rfl ⟨_,_,_,_,_,rfl,.inr HSP.out,HX2.out.2.mono (by omega),HX2.out.1.below⟩
end
section
variable {bt bp bd bm N r:Nat} {s:St} {up:Nat->Bool} {cm:Int} {V:Pst}
set_option maxHeartbeats 1000000
theorem Jq {fid B:Nat} {caps:Array Value} {v:Value} {ks:List Nat} {Ls:List (List Pr)} (hlen:ks.length=Ls.length) (hn:ks.length<=2000)
  (hlow:∀k∈ks,k<2000/\V.used k=true) (hlf:∀i (hi:i<ks.length) (hl:i<Ls.length),CJ (V.tx ks[i]) Ls[i] (1024-szL Ls[i]))
  (P:Nat->World->Prop) (Out:World->Prop) (hP:∀i wx,P i wx->Tt bt bp r wx/\Tw bp bd bm N s up cm V wx/\Ao B v (At ks) wx)
  (hst:∀i wx wy,P i wx->Below wx.heap.size wx wy->P i wy) (eg:∀args w,(callFunc fid args).run Tryz.prog w= .ok (.enter fid args) w)
  (hcb:∀i (hi:i<Ls.length) (wx:World),P i wx->Calls Tryz.prog fid (#[.string (Al Ls[i])]++caps) wx fun e w'=>∃b,e= .returned (.bool b)/\(if b then P (i+1) w' else Out w')) (w:World) (h0:P 0 w):
  Calls Tryz.prog 119 #[.pointer (some ⟨bt,0,none⟩),v,.func (.func fid) #[] caps] w fun e w'=>e= .returned .nilIface/\(P Ls.length w'\/Out w'):=by
 have HI:Hid (P 0 w):=h0;have HC:Hid _:=hcb;have HP:Hid _:=hP;have HST:Hid _:=hst;have HLF:Hid _:=hlf;have HLW:Hid _:=hlow;obtain⟨a9,cap9,hv9,_⟩:=(hP 0 w h0).2.2.is;rw[Ak]at hv9;obtain⟨n,hkn⟩:∃n,ks.length=n:=⟨_,rfl⟩;rw[hkn]at hv9;subst hv9;have HKN:Hid (ks.length=n):=hkn;have HLN:Hid (Ls.length=n):=by show _=_;rw[<-hlen];exact hkn
 have hn2:n<=2000:=by rw[<-hkn];exact hn
 clear hkn hn hlen hlow hlf hP hst hcb h0;go_enter Tryz.func119,Tryz.ntmps119;go_wp2_with fail;go_loopw [13] (fun i wr=>∃k:Nat,k<=n/\i= .int .i64 (k:Nat)/\Hid (P k wr)) (fun i _=>n+1-(intOf i).toNat)
 case atStart=>exact⟨0,Nat.zero_le _,rfl,HI⟩
 case round=>
  clear HI;obtain⟨k,hk,rfl,HI⟩:=hrel
  by_cases hlt:k<n
  ·have h1:(k:Int)<(n:Int):=by omega
   have hkk:k<ks.length:=by have:=HKN.out;omega
   have hkl:k<Ls.length:=by have:=HLN.out;omega
   obtain⟨hT,hW,hV⟩:=HP.out k _ HI.out;obtain⟨b0,o0,k1,k2,k3,k4⟩:=hV.at (i:=k) (by rw[Ak];exact hkk);rw[DN hkk]at k3;have hix:∀wx,(Instr.indexAt 69 (.slice a9 n cap9) (.int .i64 (k:Nat))).run Tryz.prog wx= .ok (.pointer (some ⟨b0,o0,none⟩)) wx:=k4 Tryz.underlying69 C6 DD (k:Nat) rfl;have HLk:Hid _:=HLW.out ks[k] (List.getElem_mem _);have HLf:Hid _:=HLF.out k hkk hkl;have CB:Hid _:=HC.out k hkl;obtain⟨K,hK⟩:∃K,ks[k]=K:=⟨_,rfl⟩;obtain⟨L,hL⟩:∃L,Ls[k]=L:=⟨_,rfl⟩;simp only[hK,hL]at k3 HLk HLf CB;have HT:Hid _:=hT;have HW:Hid _:=hW;clear hT hW hV k1 k2 k4 hK hL hkk hkl;go_wp2_with fail;refine(M4 HT.out HW.out K HLk.out.1 HLk.out.2 HLf.out).mono ?_;rintro _ w1 ⟨rfl,hb1⟩;have HI1:Hid (P k w1):=HST.out _ _ _ HI.out hb1;clear hb1 k3 HI HT HW;go_wp2_with fail;refine(CB.out _ HI1.out).mono ?_;rintro _ w2 ⟨b,rfl,h2⟩;have H2:Hid _:=h2;clear h2 HI1 CB
   cases b
   ·go_wp2
    go_ret;exact⟨rfl,.inr H2.out⟩
   ·go_wp2_with fail
    go_roundw
    case rel=>exact⟨k+1,by omega,by go_num,H2.out⟩
    case measure=>simp[intOf];omega
  ·have h1:¬(k:Int)<(n:Int):=by omega
   obtain rfl:k=n:=by omega
   go_wp2;go_ret;exact⟨rfl,.inl (by rw[HLN.out];exact HI.out)⟩
end
section
variable {bt bp bd bm N r:Nat} {s:St} {up:Nat->Bool} {cm:Int} {V:Pst} {w:World}
theorem Tt.new (w:World) (hr:r<8):Tt w.heap.size bp r (w.alloc (.cells #[.pointer (some ⟨bp,0,none⟩),.int .i64 (r:Nat)] 192)):=by
 have hn:(w.alloc (.cells #[.pointer (some ⟨bp,0,none⟩),.int .i64 (r:Nat)] 192)).heap[w.heap.size]? =some (.cells #[.pointer (some ⟨bp,0,none⟩),.int .i64 (r:Nat)] 192):=heap_alloc_new w _;refine⟨?_,?_,hr⟩
 ·simp only[World.cell?,hn];rfl
 ·simp only[World.cell?,hn];rfl
theorem Vm (h:Tw bp bd bm N s up cm V w) (hr:r<8):
  Calls Tryz.prog 50 #[.pointer (some ⟨bp,0,none⟩),.int .i64 (r:Nat)] w fun e w'=>∃bt,e= .returned (.tuple #[.pointer (some ⟨bt,0,none⟩),.nilIface])/\Tt bt bp r w'/\w.heap.size<=bt/\Below w.heap.size w w':=by
 have HW:Hid _:=h;have HR:Hid (r<8):=hr;clear h hr;go_enter Tryz.func50,Tryz.ntmps50;go_wp2_with fail;refine(Li HW.out r HR.out).mono ?_;rintro _ w1 ⟨rfl,hb1⟩;have HB:Hid (Below w.heap.size w w1):=hb1;clear hb1;go_wp2;go_ret2;exact⟨w1.heap.size,rfl,Tt.new w1 HR.out,HB.out.size,HB.out.alloc HB.out.size _⟩
theorem Kn (x1 x2 x3 x4:Value) (a b:Int) (w:World):
  Calls Tryz.prog 129 #[.agg #[x1,x2,x3,x4,.int .i64 a,.int .i64 b]] w fun e w'=>e= .returned (.bool (decide (a<b)))/\Below w.heap.size w w':=by
 have HB:Hid (Below w.heap.size w (w.alloc (.cells #[x1,x2,x3,x4,.int .i64 a,.int .i64 b] 204))):=(Below.refl _ w).alloc (Nat.le_refl _) _;go_enter Tryz.func129,Tryz.ntmps129;go_wp2;go_ret;exact⟨rfl,HB.out⟩
def Tr.pages (T:Tr):Nat:=if T.Ls.length<=1 then T.Ls.length else T.Ls.length+1
def Tr.deep (T:Tr):Nat:=if T.Ls.length<=1 then T.Ls.length else 2
set_option maxHeartbeats 1000000
theorem P6 (hT:Tt bt bp r w) (h:Tw bp bd bm N s up cm V w) {T:Tr} (hA:Ck V r T):
  Calls Tryz.prog 130 #[.pointer (some ⟨bt,0,none⟩)] w fun e w'=>e= .returned (.tuple #[.int .i64 (T.pages:Nat),.int .i64 (T.deep:Nat),.nilIface])/\Below w.heap.size w w':=by
 have HA:Hid _:=hA;have HT:Hid _:=hT;have HW:Hid _:=h;clear hA hT h;go_enter Tryz.func130,Tryz.ntmps130;go_wp2_with fail;refine(JF HT.out HW.out HA.out).mono ?_;rintro _ w1 ⟨v,rfl,hv1,hb1⟩;have HB:Hid (Below w.heap.size w w1):=hb1;obtain⟨a9,cap9,hv9,_⟩:=hv1.is;rw[Ak,HA.out.len]at hv9;subst hv9;have HB2:Hid (Below w.heap.size w (w1.alloc (.cells #[.int .i64 (T.top:Nat),.slice a9 T.Ls.length cap9] 202))):=HB.out.alloc HB.out.size _;have h0:=HA.out.top0;have hl:=HA.out.ok.len;have HPG:Hid (T.pages=if T.Ls.length<=1 then T.Ls.length else T.Ls.length+1):=rfl;have HDP:Hid (T.deep=if T.Ls.length<=1 then T.Ls.length else 2):=rfl;generalize T.Ls.length=n at *;generalize T.top=top at *;clear hv1 hb1;rcases Nat.eq_zero_or_pos n with hn|hn
 ·subst hn
  go_wp2
  go_ret3
  exact⟨by rw[HPG.out,HDP.out];rfl,HB2.out⟩
 ·have hne:¬(n:Int)=0:=by omega
  by_cases h1:n<=1
  ·obtain rfl:n=1:=by omega
   obtain rfl:top=0:=by omega
   clear h0 hl h1 hn hne;go_wp2
   go_ret3
   exact⟨by rw[HPG.out,HDP.out];rfl,HB2.out⟩
  ·have ht:¬top=0:=by omega
   have ht2:¬(top:Int)=0:=by omega
   have hwr:IntKind.i64.wrap ((n:Int)+1)=(n:Int)+1:=by simp[IntKind.wrap,IntKind.signed,IntKind.bits];omega
   have H1:Hid _:=h1;clear h0 hl h1 hn ht;go_wp2
   go_ret3
   exact⟨by rw[HPG.out,HDP.out,if_neg H1.out,if_neg H1.out];rfl,HB2.out⟩
end
end
end Go.Proofs.YtihnldkgeelehaaGreatDoor
