/- MatchFinds: part 33. -/
import Derived.Test.YtgfldnaahojnlaaGreatDoorF32
set_option maxRecDepth 100000
set_option maxHeartbeats 4000000
namespace Go.Proofs.YtgfldnaahojnlaaGreatDoor
section
open Go.RowKit
structure TE (w:World) (v:Value) (l:List Ht) (wx:World):Prop where
 b:Below w.heap.size w wx
 o:wx.ownsRow w.heap.size 47 2 v l.length (htc l)
theorem TE.step {w wx wy:World} {v:Value} {l:List Ht} (h:TE w v l wx) (hb:Below wx.heap.size wx wy):TE w v l wy:=
 ⟨h.b.trans (hb.mono h.b.size),Bi h.o hb⟩
structure XC (b o:Nat) (x:Ht) (w:World):Prop where
 lt:b<w.heap.size
 r:w.cell? ⟨b,o,none⟩=some (.int .i64 x.r)
 o:w.cell? ⟨b,o+1,none⟩=some (.int .i64 x.o)
theorem XC.below {b o:Nat} {x:Ht} {w w':World} (h:XC b o x w) (hb:Below w.heap.size w w'):XC b o x w':=
 ⟨Nat.lt_of_lt_of_le h.lt hb.size,by rw[hb.cell (p:=⟨b,_,none⟩) h.lt];exact h.r,by rw[hb.cell (p:=⟨b,_,none⟩) h.lt];exact h.o⟩
structure HV (B:Nat) (x:Ht) (w:World):Prop where
 lt:B<w.heap.size
 r:w.cell? ⟨B,0,none⟩=some (.int .i64 x.r)
 o:w.cell? ⟨B,1,none⟩=some (.int .i64 x.o)
 fr:w.frozen? ⟨B,0,none⟩=false
 fo:w.frozen? ⟨B,1,none⟩=false
theorem HV.below {B:Nat} {x:Ht} {w w':World} (h:HV B x w) (hb:Below w.heap.size w w'):HV B x w':=
 ⟨Nat.lt_of_lt_of_le h.lt hb.size,by rw[hb.cell (p:=⟨B,_,none⟩) h.lt];exact h.r,by rw[hb.cell (p:=⟨B,_,none⟩) h.lt];exact h.o,by rw[World.frozen?_of_block (hb.block B h.lt)];exact h.fr,by rw[World.frozen?_of_block (hb.block B h.lt)];exact h.fo⟩
theorem HV.new (w:World) (x:Ht):HV w.heap.size x (w.alloc (.cells #[.int .i64 x.r,.int .i64 x.o] 47)):=by
 have hn:=heap_alloc_new w (.cells #[.int .i64 x.r,.int .i64 x.o] 47);exact⟨by simp,by simp,by simp,by simp only[World.frozen?,hn];simp,by simp only[World.frozen?,hn];simp⟩
theorem HV.put {B:Nat} {x:Ht} {w:World} (h:HV B x w) (z:Ht):HV B z ((w.setCell ⟨B,0,none⟩ (.int .i64 z.r)).setCell ⟨B,1,none⟩ (.int .i64 z.o)):=by
 have e01:(⟨B,0,none⟩:Addr)≠⟨B,1,none⟩:=fun e=>by injection e with _ e;cases e
 refine⟨by simp[World.setCell];exact h.lt,?_,?_,?_,?_⟩
 ·rw[World.cell?_setCell_other _ _ _ _ (Ne.symm e01)]
  exact World.cell?_setCell_same _ _ _ h.r
 ·exact World.cell?_setCell_same _ _ _ (by rw[World.cell?_setCell_other _ _ _ _ e01];exact h.o)
 ·rw[World.frozen?_setCell,World.frozen?_setCell];exact h.fr
 ·rw[World.frozen?_setCell,World.frozen?_setCell];exact h.fo
theorem TE.put {w wx:World} {v:Value} {l:List Ht} {B:Nat} (h:TE w v l wx) (hB:w.heap.size<=B) (hv:∀g,v.ownBlock=some g->g<B) (p q:Value):TE w v l ((wx.setCell ⟨B,0,none⟩ p).setCell ⟨B,1,none⟩ q):=
 have hne:v.ownBlock≠some B:=fun e=>Nat.lt_irrefl _ (hv B e)
 ⟨(h.b.setCell hB _).setCell hB _,ownsRow_setCell_other (ownsRow_setCell_other h.o hne _) hne _⟩
theorem InH.split {w:World} {v:Value} {x:Ht} {xs:List Ht} (h:InH w v (x::xs)):∃b o c,v= .slice (some ⟨b,o,none⟩) (xs.length+1) c/\xs.length+1<=c/\XC b o x w:=by
 obtain⟨a,c,rfl,hc,⟨_,_,hr⟩,_⟩:=h;rcases hr with hr|⟨b,o,rfl,hb,hrow⟩
 ·cases hr
 ·obtain⟨g1,g2⟩:=hrow 0 (by simp)
  simp only[Nat.zero_mul,Nat.add_zero,List.getElem_cons_zero]at g1 g2;exact⟨b,o,c,by rw[List.length_cons],by simpa using hc,hb,g1,g2⟩
theorem InH.none {w:World} {v:Value} (h:InH w v []):∃a c,v= .slice a 0 c:=by
 obtain⟨a,c,rfl,_⟩:=h;exact⟨a,c,rfl⟩
set_option maxHeartbeats 8000000
theorem LX (k:Int) (va vb:Value) (xs ys:List Ht) (w:World) (h1:InH w va xs) (h2:InH w vb ys) (hl1:xs.length<=100000000) (hl2:ys.length<=100000000) (hk1:∀z∈xs,0<=z.o/\z.o<=1000000000000) (hk2:∀z∈ys,0<=z.o/\z.o<=1000000000000):
  Calls Tryz.prog 66 #[.int .i64 k,va,vb] w fun e w'=>∃v',e= .returned v'/\w'.ownsRow w.heap.size 47 2 v' (Ak k xs ys).length (htc (Ak k xs ys))/\Below w.heap.size w w':=by
 obtain⟨i0,hi,hz0,hz1,hz2⟩:=A5 P7;obtain⟨T,hT⟩:∃T,Ak k xs ys=T:=⟨_,rfl⟩;have HT:Hid (Ak k xs ys=T):=hT;rw[hT];clear hT;have H1:Hid (InH w va xs/\∀z∈xs,0<=z.o/\z.o<=1000000000000):=⟨h1,hk1⟩;have H2:Hid (InH w vb ys/\∀z∈ys,0<=z.o/\z.o<=1000000000000):=⟨h2,hk2⟩;obtain⟨a1,c1,rfl,hc1,_,_⟩:=h1;obtain⟨a2,c2,rfl,hc2,_,_⟩:=h2;clear hk1 hk2;go_enter Tryz.func66,Tryz.ntmps66;go_wp2;go_loopw [1,2,7] (fun x y v wr=>∃(xs ys l:List Ht),Hid (InH w x xs/\InH w y ys/\l++Ak k xs ys=T/\(∀z∈xs,0<=z.o/\z.o<=1000000000000)/\(∀z∈ys,0<=z.o/\z.o<=1000000000000))/\Hid (TE w v l wr)/\l.length+xs.length+ys.length<=200000000) (fun x y _ _=>A4 x+A4 y)
 case atStart=>exact⟨xs,ys,[],⟨H1.out.1,H2.out.1,HT.out,H1.out.2,H2.out.2⟩,⟨Below.refl _ _,World.ownsRow_nil _ _ _ _⟩,by simp;omega⟩
 case round=>
  clear HT H1 H2 hc1 hc2 hl1 hl2;obtain⟨xs,ys,l,hz,hown,hlen⟩:=hrel;obtain⟨hz1',hz2',hzT,hk1,hk2⟩:=hz.out;have HM:Hid (TE w u7 l wr):=hown;have HI1:Hid (InH w u1 xs):=hz1';have HI2:Hid (InH w u2 ys):=hz2';have HZ:Hid (l++Ak k xs ys=T):=hzT;have HK1:Hid (∀z∈xs,0<=z.o/\z.o<=1000000000000):=hk1;have HK2:Hid (∀z∈ys,0<=z.o/\z.o<=1000000000000):=hk2;clear hz hz1' hz2' hzT hk1 hk2 hown
  cases xs with
  |nil=>
   obtain⟨a1,c1,rfl⟩:=HI1.out.none
   cases ys with
   |nil=>
    obtain⟨a2,c2,rfl⟩:=HI2.out.none
    have e:l=T:=by
     have:=HZ.out;rw[Ak,List.append_nil]at this;exact this
    subst e;go_wp2;go_ret;exact⟨_,rfl,HM.out.o,HM.out.b⟩
   |cons y ys=>
    obtain⟨b2,o2,c2,rfl,hc2,hx2⟩:=HI2.out.split;have HX2:Hid (XC b2 o2 y w):=hx2;clear hx2;obtain⟨n2,e2⟩:∃n,ys.length=n:=⟨_,rfl⟩;have HN2:Hid (ys.length=n2):=e2;simp only[List.length_cons]at hlen;rw[e2]at hc2 hlen HI2 ⊢;clear e2;have d2:decide ((0:Int)<(n2:Int)+1)=true:=by simp
    have f2:((n2:Int)+1 == 0)=false:=by simp;omega
    have HZ2:Hid (l++((if A8 k false true then [(⟨y.r,y.o⟩:Ht)]else [])++Ak k ([]) (ys))=T):=by
     have:=HZ.out;rw[Ak]at this;exact this
    clear HZ;obtain⟨st,hst⟩:∃st,A8 k false true=st:=⟨_,rfl⟩;have HST:Hid (A8 k false true=st):=hst;rw[hst]at HZ2;clear hst;obtain⟨_,y1,y2⟩:=HX2.out.below HM.out.b;go_wp2_with fail;go_quiet (fail);have HM:Hid _:=TE.step HM.out (below_drewN (Below.refl _ _) nq);generalize (wr.drewN nq)=W1 at *;clear y1 y2;obtain⟨_,y1,y2⟩:=HX2.out.below HM.out.b;go_wp2_with fail;go_quiet (fail);have HM:Hid _:=TE.step HM.out (below_drewN (Below.refl _ _) nq);generalize (W1.drewN nq)=W2 at *;clear y1 y2;obtain⟨_,y1,y2⟩:=HX2.out.below HM.out.b;have hs2:=HM.out.b.size
    have HA2:Hid (c2=1->InH w (.slice (some ⟨b2,o2,none⟩) n2 (c2-1)) ys):=fun e=>by
     have:=HI2.out.tail;rw[if_pos e]at this;exact this
    have HB2:Hid (¬c2=1->InH w (.slice (some ⟨b2,o2+2,none⟩) n2 (c2-1)) ys):=fun e=>by
     have:=HI2.out.tail;rw[if_neg e]at this;exact this
    have HC2:Hid (c2=1->InH w (.slice (some ⟨b2,o2,none⟩) n2 0) ys):=fun e=>by
     have:=HI2.out.tail;rw[if_pos e,e]at this;exact this
    have HVB0:∀g,u7.ownBlock=some g->g<W2.heap.size:=fun g e=>(HM.out.o.lt g e).2;go_wp2_with fail;have HHV:Hid (HV W2.heap.size (⟨0,0⟩:Ht) (W2.alloc (.cells #[.int .i64 0,.int .i64 0] 47))):=HV.new W2 (⟨0,0⟩:Ht);have HM:Hid _:=TE.step HM.out ((Below.refl W2.heap.size W2).alloc (Nat.le_refl _) (.cells #[.int .i64 0,.int .i64 0] 47));have hs3:W2.heap.size<(W2.alloc (.cells #[.int .i64 0,.int .i64 0] 47)).heap.size:=by simp
    generalize (W2.alloc (.cells #[.int .i64 0,.int .i64 0] 47))=W4 at *;clear y1 y2;obtain⟨_,y1,y2⟩:=HX2.out.below HM.out.b;obtain⟨_,v1,v2,vf1,vf2⟩:=HHV.out;have HY:=HX2;obtain⟨yl,yl2⟩:=HK2.out y (by simp);have hw1:IntKind.i64.wrap y.o=y.o:=By _ (by omega) (by omega);have HVB:Hid (∀g,u7.ownBlock=some g->g<W2.heap.size):=HVB0;refine Dt (S:=fun wx=>wx.cell? ⟨b2,o2,none⟩=some (.int .i64 y.r)/\wx.cell? ⟨b2,o2+1,none⟩=some (.int .i64 y.o)/\wx.cell? ⟨W2.heap.size,1,none⟩=some (.int .i64 (0))) (js:=12) (by kernel_rfl) (⟨y1,y2,v2⟩) ?_;intro g0;refine Ae (i:=0) (oi:={dst:=some 64,op:=Op.move (Operand.tmp 2),type:=41,pos:= "find.go:125",after:= #[],guard:=none}) (v:= .slice (some ⟨b2,o2,none⟩) (n2+1) c2) rfl (by kernel_rfl) (by kernel_rfl) (by kernel_rfl) (fun _ _ _ h=>h) (by decide) (by kernel_rfl) (Or.inl ⟨by rfl,fun wx _=>by go_simp⟩) g0 ?_;simp only[Act.put,List.setIfInBounds_toArray,List.set_cons_zero,List.set_cons_succ];refine Ae (i:=1) (oi:={dst:=some 65,op:=Op.indexAddr 41 (Operand.tmp 64) (Operand.const (Value.int IntKind.i64 0)),type:=0,pos:= "find.go:125",after:= #[{on:=0,ground:=Ground.data}],guard:=none}) (v:= .pointer (some ⟨b2,o2,none⟩)) rfl (by kernel_rfl) (by kernel_rfl) (by kernel_rfl) (fun _ _ _ h=>h) (by decide) (by kernel_rfl) (Or.inl ⟨by rfl,fun wx _=>by go_simp⟩) g0 ?_;simp only[Act.put,List.setIfInBounds_toArray,List.set_cons_zero,List.set_cons_succ];refine Ae (i:=2) (oi:={dst:=some 66,op:=Op.fieldAddr 47 (Operand.tmp 65) 0,type:=0,pos:= "find.go:125",after:= #[{on:=1,ground:=Ground.data}],guard:=none}) (v:= .pointer (some ⟨b2,o2,none⟩)) rfl (by kernel_rfl) (by kernel_rfl) (by kernel_rfl) (fun _ _ _ h=>h) (by decide) (by kernel_rfl) (Or.inl ⟨by rfl,fun wx _=>by go_simp⟩) g0 ?_;simp only[Act.put,List.setIfInBounds_toArray,List.set_cons_zero,List.set_cons_succ];refine Ae (i:=3) (oi:={dst:=some 67,op:=Op.load 3 (Operand.tmp 66),type:=3,pos:= "find.go:125",after:= #[{on:=2,ground:=Ground.data}],guard:=none}) (v:= .int .i64 y.r) rfl (by kernel_rfl) (by kernel_rfl) (by kernel_rfl) (fun _ _ _ h=>h) (by decide) (by kernel_rfl) (Or.inl ⟨by rfl,fun wx h=>by have h8:=h.1;go_simp⟩) g0 ?_;simp only[Act.put,List.setIfInBounds_toArray,List.set_cons_zero,List.set_cons_succ];refine Ae (i:=4) (oi:={dst:=some 68,op:=Op.fieldAddr 47 (Operand.tmp 10) 1,type:=0,pos:= "find.go:125",after:= #[],guard:=none}) (v:= .pointer (some ⟨W2.heap.size,1,none⟩)) rfl (by kernel_rfl) (by kernel_rfl) (by kernel_rfl) (fun _ _ _ h=>h) (by decide) (by kernel_rfl) (Or.inl ⟨by rfl,fun wx _=>by go_simp⟩) g0 ?_;simp only[Act.put,List.setIfInBounds_toArray,List.set_cons_zero,List.set_cons_succ];refine Ae (i:=5) (oi:={dst:=some 69,op:=Op.load 3 (Operand.tmp 68),type:=3,pos:= "find.go:125",after:= #[{on:=4,ground:=Ground.data}],guard:=none}) (v:= .int .i64 (0)) rfl (by kernel_rfl) (by kernel_rfl) (by kernel_rfl) (fun _ _ _ h=>h) (by decide) (by kernel_rfl) (Or.inl ⟨by rfl,fun wx h=>by have h8:=h.2.2;go_simp⟩) g0 ?_;simp only[Act.put,List.setIfInBounds_toArray,List.set_cons_zero,List.set_cons_succ];refine Ae (i:=6) (oi:={dst:=some 70,op:=Op.move (Operand.tmp 2),type:=41,pos:= "find.go:125",after:= #[],guard:=none}) (v:= .slice (some ⟨b2,o2,none⟩) (n2+1) c2) rfl (by kernel_rfl) (by kernel_rfl) (by kernel_rfl) (fun _ _ _ h=>h) (by decide) (by kernel_rfl) (Or.inl ⟨by rfl,fun wx _=>by go_simp⟩) g0 ?_;simp only[Act.put,List.setIfInBounds_toArray,List.set_cons_zero,List.set_cons_succ];refine Ae (i:=7) (oi:={dst:=some 71,op:=Op.indexAddr 41 (Operand.tmp 70) (Operand.const (Value.int IntKind.i64 0)),type:=0,pos:= "find.go:125",after:= #[{on:=6,ground:=Ground.data}],guard:=none}) (v:= .pointer (some ⟨b2,o2,none⟩)) rfl (by kernel_rfl) (by kernel_rfl) (by kernel_rfl) (fun _ _ _ h=>h) (by decide) (by kernel_rfl) (Or.inl ⟨by rfl,fun wx _=>by go_simp⟩) g0 ?_;simp only[Act.put,List.setIfInBounds_toArray,List.set_cons_zero,List.set_cons_succ];refine Ae (i:=8) (oi:={dst:=some 72,op:=Op.fieldAddr 47 (Operand.tmp 71) 1,type:=0,pos:= "find.go:125",after:= #[{on:=7,ground:=Ground.data}],guard:=none}) (v:= .pointer (some ⟨b2,o2+1,none⟩)) rfl (by kernel_rfl) (by kernel_rfl) (by kernel_rfl) (fun _ _ _ h=>h) (by decide) (by kernel_rfl) (Or.inl ⟨by rfl,fun wx _=>by go_simp⟩) g0 ?_;simp only[Act.put,List.setIfInBounds_toArray,List.set_cons_zero,List.set_cons_succ];refine Ae (i:=9) (oi:={dst:=some 73,op:=Op.load 3 (Operand.tmp 72),type:=3,pos:= "find.go:125",after:= #[{on:=8,ground:=Ground.data}],guard:=none}) (v:= .int .i64 y.o) rfl (by kernel_rfl) (by kernel_rfl) (by kernel_rfl) (fun _ _ _ h=>h) (by decide) (by kernel_rfl) (Or.inl ⟨by rfl,fun wx h=>by have h8:=h.2.1;go_simp⟩) g0 ?_;simp only[Act.put,List.setIfInBounds_toArray,List.set_cons_zero,List.set_cons_succ];refine Ae (i:=10) (oi:={dst:=some 74,op:=Op.binOp BinOp.add 3 (Operand.tmp 69) (Operand.tmp 73) 3,type:=3,pos:= "find.go:125",after:= #[{on:=5,ground:=Ground.data},{on:=9,ground:=Ground.data}],guard:=none}) (v:= .int .i64 (y.o)) rfl (by kernel_rfl) (by kernel_rfl) (by kernel_rfl) (fun _ _ _ h=>h) (by decide) (by kernel_rfl) (Or.inl ⟨by rfl,fun wx _=>by go_simp⟩) g0 ?_;simp only[Act.put,List.setIfInBounds_toArray,List.set_cons_zero,List.set_cons_succ];refine Ae (i:=11) (oi:={dst:=some 75,op:=Op.build 47 #[(0,Operand.tmp 67),(1,Operand.tmp 74)],type:=47,pos:= "find.go:125",after:= #[{on:=3,ground:=Ground.data},{on:=10,ground:=Ground.data}],guard:=none}) (v:= .agg #[.int .i64 y.r,.int .i64 (y.o)]) rfl (by kernel_rfl) (by kernel_rfl) (by kernel_rfl) (fun _ _ _ h=>h) (by decide) (by kernel_rfl) (Or.inl ⟨by rfl,fun wx _=>by go_simp⟩) g0 ?_;simp only[Act.put,List.setIfInBounds_toArray,List.set_cons_zero,List.set_cons_succ];refine EM (o:={dst:=none,op:=Op.store 47 (Operand.tmp 10) (Operand.tmp 75),type:=0,pos:= "find.go:125",after:= #[{on:=11,ground:=Ground.data},{on:=0,ground:=Ground.phase},{on:=1,ground:=Ground.phase},{on:=2,ground:=Ground.phase},{on:=3,ground:=Ground.phase},{on:=4,ground:=Ground.phase},{on:=5,ground:=Ground.phase},{on:=6,ground:=Ground.phase},{on:=7,ground:=Ground.phase},{on:=8,ground:=Ground.phase},{on:=9,ground:=Ground.phase},{on:=10,ground:=Ground.phase},{on:=11,ground:=Ground.phase}],guard:=none}) (by kernel_rfl) (by kernel_rfl) rfl (by rfl) (fun K hK=> ?_);have v3:W4.drew.frozen? ⟨W2.heap.size,0,none⟩=false:=vf1;have v4:W4.drew.frozen? ⟨W2.heap.size,1,none⟩=false:=vf2;have v5:W4.drew.cell? ⟨W2.heap.size,0,none⟩=some (.int .i64 (0)):=v1;have v6:W4.drew.cell? ⟨W2.heap.size,1,none⟩=some (.int .i64 (0)):=v2
    go_simp
    refine hK.out _ _ ?_;clear hK K
    try simp only[Act.put,List.setIfInBounds_toArray,List.set_cons_zero,List.set_cons_succ]
    have HHV:Hid (HV W2.heap.size (⟨y.r,y.o⟩:Ht) ((W4.setCell ⟨W2.heap.size,0,none⟩ (.int .i64 y.r)).setCell ⟨W2.heap.size,1,none⟩ (.int .i64 (y.o))).drew):=(HV.put HHV.out (⟨y.r,y.o⟩:Ht)).below (Below.refl _ _).drew;have HM:Hid (TE w u7 l ((W4.setCell ⟨W2.heap.size,0,none⟩ (.int .i64 y.r)).setCell ⟨W2.heap.size,1,none⟩ (.int .i64 (y.o))).drew):=(TE.put HM.out hs2 HVB.out _ _).step (Below.refl _ _).drew;have hs4:W2.heap.size<((W4.setCell ⟨W2.heap.size,0,none⟩ (.int .i64 y.r)).setCell ⟨W2.heap.size,1,none⟩ (.int .i64 (y.o))).drew.heap.size:=by simp[World.setCell,World.drew];exact hs3
    generalize ((W4.setCell ⟨W2.heap.size,0,none⟩ (.int .i64 y.r)).setCell ⟨W2.heap.size,1,none⟩ (.int .i64 (y.o))).drew=W3 at *;clear v1 v2 v3 v4 v5 v6 y1 y2 vf1 vf2 g0;go_wp2_with fail
    all_goals (
     obtain⟨_,v1,v2,_,_⟩:=HHV.out;refine(FS k false true st HST.out _).mono ?_;rintro _ w9 ⟨rfl,h9⟩;obtain rfl:=h9.symm;clear h9
     cases st
     ·have HZ3:Hid (l++Ak k ([]) (ys)=T):=by
       show _=_;have:=HZ2.out;simpa using this
      clear HZ2;go_wp2;go_roundw
      case rel=>exact⟨[],ys,l,⟨HI1.out,by first|exact HA2.out (by assumption)|exact HB2.out (by assumption)|exact HC2.out (by assumption),HZ3.out,HK1.out,fun z hz=>HK2.out z (by simp[hz])⟩,HM.out,by have q:=hlen;have e2:=HN2.out;(try simp at q ⊢);omega⟩
      case measure=>simp[A4]<;>omega
     ·have HZ3:Hid ((l++[(⟨y.r,y.o⟩:Ht)])++Ak k ([]) (ys)=T):=by
       show _=_;have:=HZ2.out;simpa using this
      clear HZ2
      go_wp2_with (at_builtin;refine wpList_append_own _ rfl _ _ 41 rfl w.heap.size 47 i0 (.agg #[.int .i64 0,.int .i64 0]) 2 16 Tryz.underlying41 hi hz0 hz1 hz2 rfl (by decide) _ _ _ rfl (HM.out.o.alloc _) ⟨W3.heap.size,0,none⟩ 1 1 (htc [(⟨y.r,y.o⟩:Ht)]) rfl rfl (EW W3 (⟨y.r,y.o⟩:Ht) 47) (FX _) (by simp[maxLen];omega) (by omega) (by simp;omega) ?_)
      intro v3 w3 ho3 hg3 _;have HB3:Hid (Below w.heap.size w w3):=(HM.out.b.alloc HM.out.b.size _).grown hg3 (by have:=HM.out.b.size;simp;omega) (fun g hg=>(HM.out.o.lt g hg).1);have HO3:Hid (w3.ownsRow w.heap.size 47 2 v3 (l++[(⟨y.r,y.o⟩:Ht)]).length (htc (l++[(⟨y.r,y.o⟩:Ht)]))):=Bc ho3 (by simp) (by rw[De]);clear ho3 hg3;go_wp2;go_roundw
      case rel=>exact⟨[],ys,l++[(⟨y.r,y.o⟩:Ht)],⟨HI1.out,by first|exact HA2.out (by assumption)|exact HB2.out (by assumption)|exact HC2.out (by assumption),HZ3.out,HK1.out,fun z hz=>HK2.out z (by simp[hz])⟩,⟨HB3.out,HO3.out⟩,by have q:=hlen;have e2:=HN2.out;(try simp at q ⊢);omega⟩
      case measure=>simp[A4]<;>omega)
  |cons x xs=>
   obtain⟨b1,o1,c1,rfl,hc1,hx1⟩:=HI1.out.split;have HX1:Hid (XC b1 o1 x w):=hx1;clear hx1;obtain⟨n1,e1⟩:∃n,xs.length=n:=⟨_,rfl⟩;have HN1:Hid (xs.length=n1):=e1;simp only[List.length_cons]at hlen;rw[e1]at hc1 hlen HI1 ⊢;clear e1;have d1:decide ((0:Int)<(n1:Int)+1)=true:=by simp
   have f1:((n1:Int)+1 == 0)=false:=by simp;omega
   cases ys with
   |nil=>
    obtain⟨a2,c2,rfl⟩:=HI2.out.none
    have HZ2:Hid (l++((if A8 k true false then [x]else [])++Ak k (xs) ([]))=T):=by
     have:=HZ.out;rw[Ak]at this;exact this
    clear HZ;obtain⟨st,hst⟩:∃st,A8 k true false=st:=⟨_,rfl⟩;have HST:Hid (A8 k true false=st):=hst;rw[hst]at HZ2;clear hst;obtain⟨_,x1,x2⟩:=HX1.out.below HM.out.b;go_wp2_with fail;go_quiet (fail);have HM:Hid _:=TE.step HM.out (below_drewN (Below.refl _ _) nq);generalize (wr.drewN nq)=W1 at *;clear x1 x2;obtain⟨_,x1,x2⟩:=HX1.out.below HM.out.b;go_wp2_with fail;go_quiet (fail);have HM:Hid _:=TE.step HM.out (below_drewN (Below.refl _ _) nq);generalize (W1.drewN nq)=W2 at *;clear x1 x2;obtain⟨_,x1,x2⟩:=HX1.out.below HM.out.b;have hs2:=HM.out.b.size
    have HA1:Hid (c1=1->InH w (.slice (some ⟨b1,o1,none⟩) n1 (c1-1)) xs):=fun e=>by
     have:=HI1.out.tail;rw[if_pos e]at this;exact this
    have HB1:Hid (¬c1=1->InH w (.slice (some ⟨b1,o1+2,none⟩) n1 (c1-1)) xs):=fun e=>by
     have:=HI1.out.tail;rw[if_neg e]at this;exact this
    have HC1:Hid (c1=1->InH w (.slice (some ⟨b1,o1,none⟩) n1 0) xs):=fun e=>by
     have:=HI1.out.tail;rw[if_pos e,e]at this;exact this
    have hs2:=HM.out.b.size;go_wp2_with fail
    all_goals (
     have HHV:Hid (HV W2.heap.size x (W2.alloc (.cells #[.int .i64 x.r,.int .i64 x.o] 47))):=HV.new W2 x;have HM:Hid _:=TE.step HM.out ((Below.refl W2.heap.size W2).alloc (Nat.le_refl _) (.cells #[.int .i64 x.r,.int .i64 x.o] 47));have hs3:W2.heap.size<(W2.alloc (.cells #[.int .i64 x.r,.int .i64 x.o] 47)).heap.size:=by simp
     generalize (W2.alloc (.cells #[.int .i64 x.r,.int .i64 x.o] 47))=W3 at *;clear x1 x2;obtain⟨_,v1,v2,_,_⟩:=HHV.out;refine(FS k true false st HST.out _).mono ?_;rintro _ w9 ⟨rfl,h9⟩;obtain rfl:=h9.symm;clear h9
     cases st
     ·have HZ3:Hid (l++Ak k (xs) ([])=T):=by
       show _=_;have:=HZ2.out;simpa using this
      clear HZ2;go_wp2;go_roundw
      case rel=>exact⟨xs,[],l,⟨by first|exact HA1.out (by assumption)|exact HB1.out (by assumption)|exact HC1.out (by assumption),HI2.out,HZ3.out,fun z hz=>HK1.out z (by simp[hz]),HK2.out⟩,HM.out,by have q:=hlen;have e1:=HN1.out;(try simp at q ⊢);omega⟩
      case measure=>simp[A4]<;>omega
     ·have HZ3:Hid ((l++[x])++Ak k (xs) ([])=T):=by
       show _=_;have:=HZ2.out;simpa using this
      clear HZ2
      go_wp2_with (at_builtin;refine wpList_append_own _ rfl _ _ 41 rfl w.heap.size 47 i0 (.agg #[.int .i64 0,.int .i64 0]) 2 16 Tryz.underlying41 hi hz0 hz1 hz2 rfl (by decide) _ _ _ rfl (HM.out.o.alloc _) ⟨W3.heap.size,0,none⟩ 1 1 (htc [x]) rfl rfl (EW W3 x 47) (FX _) (by simp[maxLen];omega) (by omega) (by simp;omega) ?_)
      intro v3 w3 ho3 hg3 _;have HB3:Hid (Below w.heap.size w w3):=(HM.out.b.alloc HM.out.b.size _).grown hg3 (by have:=HM.out.b.size;simp;omega) (fun g hg=>(HM.out.o.lt g hg).1);have HO3:Hid (w3.ownsRow w.heap.size 47 2 v3 (l++[x]).length (htc (l++[x]))):=Bc ho3 (by simp) (by rw[De]);clear ho3 hg3;go_wp2;go_roundw
      case rel=>exact⟨xs,[],l++[x],⟨by first|exact HA1.out (by assumption)|exact HB1.out (by assumption)|exact HC1.out (by assumption),HI2.out,HZ3.out,fun z hz=>HK1.out z (by simp[hz]),HK2.out⟩,⟨HB3.out,HO3.out⟩,by have q:=hlen;have e1:=HN1.out;(try simp at q ⊢);omega⟩
      case measure=>simp[A4]<;>omega)
   |cons y ys=>
    obtain⟨b2,o2,c2,rfl,hc2,hx2⟩:=HI2.out.split;have HX2:Hid (XC b2 o2 y w):=hx2;clear hx2;obtain⟨n2,e2⟩:∃n,ys.length=n:=⟨_,rfl⟩;have HN2:Hid (ys.length=n2):=e2;simp only[List.length_cons]at hlen;rw[e2]at hc2 hlen HI2 ⊢;clear e2;have d2:decide ((0:Int)<(n2:Int)+1)=true:=by simp
    have f2:((n2:Int)+1 == 0)=false:=by simp;omega
    by_cases hlt:x.r<y.r
    ·skip
     have j1:decide (x.r<=y.r)=true:=by simp;omega
     have j2:decide (y.r<=x.r)=false:=by simp;omega
     have HZ2:Hid (l++((if A8 k true false then [x]else [])++Ak k (xs) (y::ys))=T):=by
      have:=HZ.out;rw[Ak,if_pos hlt]at this;exact this
     clear HZ hlt;obtain⟨st,hst⟩:∃st,A8 k true false=st:=⟨_,rfl⟩;have HST:Hid (A8 k true false=st):=hst;rw[hst]at HZ2;clear hst;obtain⟨_,x1,x2⟩:=HX1.out.below HM.out.b;obtain⟨_,y1,y2⟩:=HX2.out.below HM.out.b;go_wp2_with fail;go_quiet (fail);have HM:Hid _:=TE.step HM.out (below_drewN (Below.refl _ _) nq);generalize (wr.drewN nq)=W1 at *;clear x1 x2 y1 y2;obtain⟨_,x1,x2⟩:=HX1.out.below HM.out.b;obtain⟨_,y1,y2⟩:=HX2.out.below HM.out.b;go_wp2_with fail;go_quiet (fail);have HM:Hid _:=TE.step HM.out (below_drewN (Below.refl _ _) nq);generalize (W1.drewN nq)=W2 at *;clear x1 x2 y1 y2;obtain⟨_,x1,x2⟩:=HX1.out.below HM.out.b;obtain⟨_,y1,y2⟩:=HX2.out.below HM.out.b;have hs2:=HM.out.b.size
     have HA1:Hid (c1=1->InH w (.slice (some ⟨b1,o1,none⟩) n1 (c1-1)) xs):=fun e=>by
      have:=HI1.out.tail;rw[if_pos e]at this;exact this
     have HB1:Hid (¬c1=1->InH w (.slice (some ⟨b1,o1+2,none⟩) n1 (c1-1)) xs):=fun e=>by
      have:=HI1.out.tail;rw[if_neg e]at this;exact this
     have HC1:Hid (c1=1->InH w (.slice (some ⟨b1,o1,none⟩) n1 0) xs):=fun e=>by
      have:=HI1.out.tail;rw[if_pos e,e]at this;exact this
     have hs2:=HM.out.b.size;go_wp2_with fail
     all_goals (
      have HHV:Hid (HV W2.heap.size x (W2.alloc (.cells #[.int .i64 x.r,.int .i64 x.o] 47))):=HV.new W2 x;have HM:Hid _:=TE.step HM.out ((Below.refl W2.heap.size W2).alloc (Nat.le_refl _) (.cells #[.int .i64 x.r,.int .i64 x.o] 47));have hs3:W2.heap.size<(W2.alloc (.cells #[.int .i64 x.r,.int .i64 x.o] 47)).heap.size:=by simp
      generalize (W2.alloc (.cells #[.int .i64 x.r,.int .i64 x.o] 47))=W3 at *;clear x1 x2;obtain⟨_,v1,v2,_,_⟩:=HHV.out;refine(FS k true false st HST.out _).mono ?_;rintro _ w9 ⟨rfl,h9⟩;obtain rfl:=h9.symm;clear h9
      cases st
      ·have HZ3:Hid (l++Ak k (xs) (y::ys)=T):=by
        show _=_;have:=HZ2.out;simpa using this
       clear HZ2;go_wp2;go_roundw
       case rel=>exact⟨xs,y::ys,l,⟨by first|exact HA1.out (by assumption)|exact HB1.out (by assumption)|exact HC1.out (by assumption),HI2.out,HZ3.out,fun z hz=>HK1.out z (by simp[hz]),HK2.out⟩,HM.out,by have q:=hlen;have e1:=HN1.out;have e2:=HN2.out;(try simp at q ⊢);omega⟩
       case measure=>simp[A4]<;>omega
      ·have HZ3:Hid ((l++[x])++Ak k (xs) (y::ys)=T):=by
        show _=_;have:=HZ2.out;simpa using this
       clear HZ2
       go_wp2_with (at_builtin;refine wpList_append_own _ rfl _ _ 41 rfl w.heap.size 47 i0 (.agg #[.int .i64 0,.int .i64 0]) 2 16 Tryz.underlying41 hi hz0 hz1 hz2 rfl (by decide) _ _ _ rfl (HM.out.o.alloc _) ⟨W3.heap.size,0,none⟩ 1 1 (htc [x]) rfl rfl (EW W3 x 47) (FX _) (by simp[maxLen];omega) (by omega) (by simp;omega) ?_)
       intro v3 w3 ho3 hg3 _;have HB3:Hid (Below w.heap.size w w3):=(HM.out.b.alloc HM.out.b.size _).grown hg3 (by have:=HM.out.b.size;simp;omega) (fun g hg=>(HM.out.o.lt g hg).1);have HO3:Hid (w3.ownsRow w.heap.size 47 2 v3 (l++[x]).length (htc (l++[x]))):=Bc ho3 (by simp) (by rw[De]);clear ho3 hg3;go_wp2;go_roundw
       case rel=>exact⟨xs,y::ys,l++[x],⟨by first|exact HA1.out (by assumption)|exact HB1.out (by assumption)|exact HC1.out (by assumption),HI2.out,HZ3.out,fun z hz=>HK1.out z (by simp[hz]),HK2.out⟩,⟨HB3.out,HO3.out⟩,by have q:=hlen;have e1:=HN1.out;have e2:=HN2.out;(try simp at q ⊢);omega⟩
       case measure=>simp[A4]<;>omega)
    ·by_cases hgt:y.r<x.r
     ·skip
      have j1:decide (x.r<=y.r)=false:=by simp;omega
      have j2:decide (y.r<=x.r)=true:=by simp;omega
      have HZ2:Hid (l++((if A8 k false true then [(⟨y.r,y.o⟩:Ht)]else [])++Ak k (x::xs) (ys))=T):=by
       have:=HZ.out;rw[Ak,if_neg hlt,if_pos hgt]at this;exact this
      clear HZ hlt hgt;obtain⟨st,hst⟩:∃st,A8 k false true=st:=⟨_,rfl⟩;have HST:Hid (A8 k false true=st):=hst;rw[hst]at HZ2;clear hst;obtain⟨_,x1,x2⟩:=HX1.out.below HM.out.b;obtain⟨_,y1,y2⟩:=HX2.out.below HM.out.b;go_wp2_with fail;go_quiet (fail);have HM:Hid _:=TE.step HM.out (below_drewN (Below.refl _ _) nq);generalize (wr.drewN nq)=W1 at *;clear x1 x2 y1 y2;obtain⟨_,x1,x2⟩:=HX1.out.below HM.out.b;obtain⟨_,y1,y2⟩:=HX2.out.below HM.out.b;go_wp2_with fail;go_quiet (fail);have HM:Hid _:=TE.step HM.out (below_drewN (Below.refl _ _) nq);generalize (W1.drewN nq)=W2 at *;clear x1 x2 y1 y2;obtain⟨_,x1,x2⟩:=HX1.out.below HM.out.b;obtain⟨_,y1,y2⟩:=HX2.out.below HM.out.b;have hs2:=HM.out.b.size
      have HA2:Hid (c2=1->InH w (.slice (some ⟨b2,o2,none⟩) n2 (c2-1)) ys):=fun e=>by
       have:=HI2.out.tail;rw[if_pos e]at this;exact this
      have HB2:Hid (¬c2=1->InH w (.slice (some ⟨b2,o2+2,none⟩) n2 (c2-1)) ys):=fun e=>by
       have:=HI2.out.tail;rw[if_neg e]at this;exact this
      have HC2:Hid (c2=1->InH w (.slice (some ⟨b2,o2,none⟩) n2 0) ys):=fun e=>by
       have:=HI2.out.tail;rw[if_pos e,e]at this;exact this
      have HVB0:∀g,u7.ownBlock=some g->g<W2.heap.size:=fun g e=>(HM.out.o.lt g e).2;go_wp2_with fail;have HHV:Hid (HV W2.heap.size (⟨0,0⟩:Ht) (W2.alloc (.cells #[.int .i64 0,.int .i64 0] 47))):=HV.new W2 (⟨0,0⟩:Ht);have HM:Hid _:=TE.step HM.out ((Below.refl W2.heap.size W2).alloc (Nat.le_refl _) (.cells #[.int .i64 0,.int .i64 0] 47));have hs3:W2.heap.size<(W2.alloc (.cells #[.int .i64 0,.int .i64 0] 47)).heap.size:=by simp
      generalize (W2.alloc (.cells #[.int .i64 0,.int .i64 0] 47))=W4 at *;clear x1 x2 y1 y2;obtain⟨_,y1,y2⟩:=HX2.out.below HM.out.b;obtain⟨_,v1,v2,vf1,vf2⟩:=HHV.out;have HY:=HX2;obtain⟨yl,yl2⟩:=HK2.out y (by simp);have hw1:IntKind.i64.wrap y.o=y.o:=By _ (by omega) (by omega);have HVB:Hid (∀g,u7.ownBlock=some g->g<W2.heap.size):=HVB0;refine Dt (S:=fun wx=>wx.cell? ⟨b2,o2,none⟩=some (.int .i64 y.r)/\wx.cell? ⟨b2,o2+1,none⟩=some (.int .i64 y.o)/\wx.cell? ⟨W2.heap.size,1,none⟩=some (.int .i64 (0))) (js:=12) (by kernel_rfl) (⟨y1,y2,v2⟩) ?_;intro g0;refine Ae (i:=0) (oi:={dst:=some 64,op:=Op.move (Operand.tmp 2),type:=41,pos:= "find.go:125",after:= #[],guard:=none}) (v:= .slice (some ⟨b2,o2,none⟩) (n2+1) c2) rfl (by kernel_rfl) (by kernel_rfl) (by kernel_rfl) (fun _ _ _ h=>h) (by decide) (by kernel_rfl) (Or.inl ⟨by rfl,fun wx _=>by go_simp⟩) g0 ?_;simp only[Act.put,List.setIfInBounds_toArray,List.set_cons_zero,List.set_cons_succ];refine Ae (i:=1) (oi:={dst:=some 65,op:=Op.indexAddr 41 (Operand.tmp 64) (Operand.const (Value.int IntKind.i64 0)),type:=0,pos:= "find.go:125",after:= #[{on:=0,ground:=Ground.data}],guard:=none}) (v:= .pointer (some ⟨b2,o2,none⟩)) rfl (by kernel_rfl) (by kernel_rfl) (by kernel_rfl) (fun _ _ _ h=>h) (by decide) (by kernel_rfl) (Or.inl ⟨by rfl,fun wx _=>by go_simp⟩) g0 ?_;simp only[Act.put,List.setIfInBounds_toArray,List.set_cons_zero,List.set_cons_succ];refine Ae (i:=2) (oi:={dst:=some 66,op:=Op.fieldAddr 47 (Operand.tmp 65) 0,type:=0,pos:= "find.go:125",after:= #[{on:=1,ground:=Ground.data}],guard:=none}) (v:= .pointer (some ⟨b2,o2,none⟩)) rfl (by kernel_rfl) (by kernel_rfl) (by kernel_rfl) (fun _ _ _ h=>h) (by decide) (by kernel_rfl) (Or.inl ⟨by rfl,fun wx _=>by go_simp⟩) g0 ?_;simp only[Act.put,List.setIfInBounds_toArray,List.set_cons_zero,List.set_cons_succ];refine Ae (i:=3) (oi:={dst:=some 67,op:=Op.load 3 (Operand.tmp 66),type:=3,pos:= "find.go:125",after:= #[{on:=2,ground:=Ground.data}],guard:=none}) (v:= .int .i64 y.r) rfl (by kernel_rfl) (by kernel_rfl) (by kernel_rfl) (fun _ _ _ h=>h) (by decide) (by kernel_rfl) (Or.inl ⟨by rfl,fun wx h=>by have h8:=h.1;go_simp⟩) g0 ?_;simp only[Act.put,List.setIfInBounds_toArray,List.set_cons_zero,List.set_cons_succ];refine Ae (i:=4) (oi:={dst:=some 68,op:=Op.fieldAddr 47 (Operand.tmp 10) 1,type:=0,pos:= "find.go:125",after:= #[],guard:=none}) (v:= .pointer (some ⟨W2.heap.size,1,none⟩)) rfl (by kernel_rfl) (by kernel_rfl) (by kernel_rfl) (fun _ _ _ h=>h) (by decide) (by kernel_rfl) (Or.inl ⟨by rfl,fun wx _=>by go_simp⟩) g0 ?_;simp only[Act.put,List.setIfInBounds_toArray,List.set_cons_zero,List.set_cons_succ];refine Ae (i:=5) (oi:={dst:=some 69,op:=Op.load 3 (Operand.tmp 68),type:=3,pos:= "find.go:125",after:= #[{on:=4,ground:=Ground.data}],guard:=none}) (v:= .int .i64 (0)) rfl (by kernel_rfl) (by kernel_rfl) (by kernel_rfl) (fun _ _ _ h=>h) (by decide) (by kernel_rfl) (Or.inl ⟨by rfl,fun wx h=>by have h8:=h.2.2;go_simp⟩) g0 ?_;simp only[Act.put,List.setIfInBounds_toArray,List.set_cons_zero,List.set_cons_succ];refine Ae (i:=6) (oi:={dst:=some 70,op:=Op.move (Operand.tmp 2),type:=41,pos:= "find.go:125",after:= #[],guard:=none}) (v:= .slice (some ⟨b2,o2,none⟩) (n2+1) c2) rfl (by kernel_rfl) (by kernel_rfl) (by kernel_rfl) (fun _ _ _ h=>h) (by decide) (by kernel_rfl) (Or.inl ⟨by rfl,fun wx _=>by go_simp⟩) g0 ?_;simp only[Act.put,List.setIfInBounds_toArray,List.set_cons_zero,List.set_cons_succ];refine Ae (i:=7) (oi:={dst:=some 71,op:=Op.indexAddr 41 (Operand.tmp 70) (Operand.const (Value.int IntKind.i64 0)),type:=0,pos:= "find.go:125",after:= #[{on:=6,ground:=Ground.data}],guard:=none}) (v:= .pointer (some ⟨b2,o2,none⟩)) rfl (by kernel_rfl) (by kernel_rfl) (by kernel_rfl) (fun _ _ _ h=>h) (by decide) (by kernel_rfl) (Or.inl ⟨by rfl,fun wx _=>by go_simp⟩) g0 ?_;simp only[Act.put,List.setIfInBounds_toArray,List.set_cons_zero,List.set_cons_succ];refine Ae (i:=8) (oi:={dst:=some 72,op:=Op.fieldAddr 47 (Operand.tmp 71) 1,type:=0,pos:= "find.go:125",after:= #[{on:=7,ground:=Ground.data}],guard:=none}) (v:= .pointer (some ⟨b2,o2+1,none⟩)) rfl (by kernel_rfl) (by kernel_rfl) (by kernel_rfl) (fun _ _ _ h=>h) (by decide) (by kernel_rfl) (Or.inl ⟨by rfl,fun wx _=>by go_simp⟩) g0 ?_;simp only[Act.put,List.setIfInBounds_toArray,List.set_cons_zero,List.set_cons_succ];refine Ae (i:=9) (oi:={dst:=some 73,op:=Op.load 3 (Operand.tmp 72),type:=3,pos:= "find.go:125",after:= #[{on:=8,ground:=Ground.data}],guard:=none}) (v:= .int .i64 y.o) rfl (by kernel_rfl) (by kernel_rfl) (by kernel_rfl) (fun _ _ _ h=>h) (by decide) (by kernel_rfl) (Or.inl ⟨by rfl,fun wx h=>by have h8:=h.2.1;go_simp⟩) g0 ?_;simp only[Act.put,List.setIfInBounds_toArray,List.set_cons_zero,List.set_cons_succ];refine Ae (i:=10) (oi:={dst:=some 74,op:=Op.binOp BinOp.add 3 (Operand.tmp 69) (Operand.tmp 73) 3,type:=3,pos:= "find.go:125",after:= #[{on:=5,ground:=Ground.data},{on:=9,ground:=Ground.data}],guard:=none}) (v:= .int .i64 (y.o)) rfl (by kernel_rfl) (by kernel_rfl) (by kernel_rfl) (fun _ _ _ h=>h) (by decide) (by kernel_rfl) (Or.inl ⟨by rfl,fun wx _=>by go_simp⟩) g0 ?_;simp only[Act.put,List.setIfInBounds_toArray,List.set_cons_zero,List.set_cons_succ];refine Ae (i:=11) (oi:={dst:=some 75,op:=Op.build 47 #[(0,Operand.tmp 67),(1,Operand.tmp 74)],type:=47,pos:= "find.go:125",after:= #[{on:=3,ground:=Ground.data},{on:=10,ground:=Ground.data}],guard:=none}) (v:= .agg #[.int .i64 y.r,.int .i64 (y.o)]) rfl (by kernel_rfl) (by kernel_rfl) (by kernel_rfl) (fun _ _ _ h=>h) (by decide) (by kernel_rfl) (Or.inl ⟨by rfl,fun wx _=>by go_simp⟩) g0 ?_;simp only[Act.put,List.setIfInBounds_toArray,List.set_cons_zero,List.set_cons_succ];refine EM (o:={dst:=none,op:=Op.store 47 (Operand.tmp 10) (Operand.tmp 75),type:=0,pos:= "find.go:125",after:= #[{on:=11,ground:=Ground.data},{on:=0,ground:=Ground.phase},{on:=1,ground:=Ground.phase},{on:=2,ground:=Ground.phase},{on:=3,ground:=Ground.phase},{on:=4,ground:=Ground.phase},{on:=5,ground:=Ground.phase},{on:=6,ground:=Ground.phase},{on:=7,ground:=Ground.phase},{on:=8,ground:=Ground.phase},{on:=9,ground:=Ground.phase},{on:=10,ground:=Ground.phase},{on:=11,ground:=Ground.phase}],guard:=none}) (by kernel_rfl) (by kernel_rfl) rfl (by rfl) (fun K hK=> ?_);have v3:W4.drew.frozen? ⟨W2.heap.size,0,none⟩=false:=vf1;have v4:W4.drew.frozen? ⟨W2.heap.size,1,none⟩=false:=vf2;have v5:W4.drew.cell? ⟨W2.heap.size,0,none⟩=some (.int .i64 (0)):=v1;have v6:W4.drew.cell? ⟨W2.heap.size,1,none⟩=some (.int .i64 (0)):=v2
      go_simp
      refine hK.out _ _ ?_;clear hK K
      try simp only[Act.put,List.setIfInBounds_toArray,List.set_cons_zero,List.set_cons_succ]
      have HHV:Hid (HV W2.heap.size (⟨y.r,y.o⟩:Ht) ((W4.setCell ⟨W2.heap.size,0,none⟩ (.int .i64 y.r)).setCell ⟨W2.heap.size,1,none⟩ (.int .i64 (y.o))).drew):=(HV.put HHV.out (⟨y.r,y.o⟩:Ht)).below (Below.refl _ _).drew;have HM:Hid (TE w u7 l ((W4.setCell ⟨W2.heap.size,0,none⟩ (.int .i64 y.r)).setCell ⟨W2.heap.size,1,none⟩ (.int .i64 (y.o))).drew):=(TE.put HM.out hs2 HVB.out _ _).step (Below.refl _ _).drew;have hs4:W2.heap.size<((W4.setCell ⟨W2.heap.size,0,none⟩ (.int .i64 y.r)).setCell ⟨W2.heap.size,1,none⟩ (.int .i64 (y.o))).drew.heap.size:=by simp[World.setCell,World.drew];exact hs3
      generalize ((W4.setCell ⟨W2.heap.size,0,none⟩ (.int .i64 y.r)).setCell ⟨W2.heap.size,1,none⟩ (.int .i64 (y.o))).drew=W3 at *;clear v1 v2 v3 v4 v5 v6 y1 y2 vf1 vf2 g0;go_wp2_with fail
      all_goals (
       obtain⟨_,v1,v2,_,_⟩:=HHV.out;refine(FS k false true st HST.out _).mono ?_;rintro _ w9 ⟨rfl,h9⟩;obtain rfl:=h9.symm;clear h9
       cases st
       ·have HZ3:Hid (l++Ak k (x::xs) (ys)=T):=by
         show _=_;have:=HZ2.out;simpa using this
        clear HZ2;go_wp2;go_roundw
        case rel=>exact⟨x::xs,ys,l,⟨HI1.out,by first|exact HA2.out (by assumption)|exact HB2.out (by assumption)|exact HC2.out (by assumption),HZ3.out,HK1.out,fun z hz=>HK2.out z (by simp[hz])⟩,HM.out,by have q:=hlen;have e1:=HN1.out;have e2:=HN2.out;(try simp at q ⊢);omega⟩
        case measure=>simp[A4]<;>omega
       ·have HZ3:Hid ((l++[(⟨y.r,y.o⟩:Ht)])++Ak k (x::xs) (ys)=T):=by
         show _=_;have:=HZ2.out;simpa using this
        clear HZ2
        go_wp2_with (at_builtin;refine wpList_append_own _ rfl _ _ 41 rfl w.heap.size 47 i0 (.agg #[.int .i64 0,.int .i64 0]) 2 16 Tryz.underlying41 hi hz0 hz1 hz2 rfl (by decide) _ _ _ rfl (HM.out.o.alloc _) ⟨W3.heap.size,0,none⟩ 1 1 (htc [(⟨y.r,y.o⟩:Ht)]) rfl rfl (EW W3 (⟨y.r,y.o⟩:Ht) 47) (FX _) (by simp[maxLen];omega) (by omega) (by simp;omega) ?_)
        intro v3 w3 ho3 hg3 _;have HB3:Hid (Below w.heap.size w w3):=(HM.out.b.alloc HM.out.b.size _).grown hg3 (by have:=HM.out.b.size;simp;omega) (fun g hg=>(HM.out.o.lt g hg).1);have HO3:Hid (w3.ownsRow w.heap.size 47 2 v3 (l++[(⟨y.r,y.o⟩:Ht)]).length (htc (l++[(⟨y.r,y.o⟩:Ht)]))):=Bc ho3 (by simp) (by rw[De]);clear ho3 hg3;go_wp2;go_roundw
        case rel=>exact⟨x::xs,ys,l++[(⟨y.r,y.o⟩:Ht)],⟨HI1.out,by first|exact HA2.out (by assumption)|exact HB2.out (by assumption)|exact HC2.out (by assumption),HZ3.out,HK1.out,fun z hz=>HK2.out z (by simp[hz])⟩,⟨HB3.out,HO3.out⟩,by have q:=hlen;have e1:=HN1.out;have e2:=HN2.out;(try simp at q ⊢);omega⟩
        case measure=>simp[A4]<;>omega)
     ·skip
      have j1:decide (x.r<=y.r)=true:=by simp;omega
      have j2:decide (y.r<=x.r)=true:=by simp;omega
      have HZ2:Hid (l++((if A8 k true true then [(⟨y.r,x.o+y.o⟩:Ht)]else [])++Ak k (xs) (ys))=T):=by
       have:=HZ.out;rw[Ak,if_neg hlt,if_neg hgt]at this;exact this
      clear HZ hlt hgt;obtain⟨st,hst⟩:∃st,A8 k true true=st:=⟨_,rfl⟩;have HST:Hid (A8 k true true=st):=hst;rw[hst]at HZ2;clear hst;obtain⟨_,x1,x2⟩:=HX1.out.below HM.out.b;obtain⟨_,y1,y2⟩:=HX2.out.below HM.out.b;go_wp2_with fail;go_quiet (fail);have HM:Hid _:=TE.step HM.out (below_drewN (Below.refl _ _) nq);generalize (wr.drewN nq)=W1 at *;clear x1 x2 y1 y2;obtain⟨_,x1,x2⟩:=HX1.out.below HM.out.b;obtain⟨_,y1,y2⟩:=HX2.out.below HM.out.b;go_wp2_with fail;go_quiet (fail);have HM:Hid _:=TE.step HM.out (below_drewN (Below.refl _ _) nq);generalize (W1.drewN nq)=W2 at *;clear x1 x2 y1 y2;obtain⟨_,x1,x2⟩:=HX1.out.below HM.out.b;obtain⟨_,y1,y2⟩:=HX2.out.below HM.out.b;have hs2:=HM.out.b.size
      have HA1:Hid (c1=1->InH w (.slice (some ⟨b1,o1,none⟩) n1 (c1-1)) xs):=fun e=>by
       have:=HI1.out.tail;rw[if_pos e]at this;exact this
      have HB1:Hid (¬c1=1->InH w (.slice (some ⟨b1,o1+2,none⟩) n1 (c1-1)) xs):=fun e=>by
       have:=HI1.out.tail;rw[if_neg e]at this;exact this
      have HC1:Hid (c1=1->InH w (.slice (some ⟨b1,o1,none⟩) n1 0) xs):=fun e=>by
       have:=HI1.out.tail;rw[if_pos e,e]at this;exact this
      have HA2:Hid (c2=1->InH w (.slice (some ⟨b2,o2,none⟩) n2 (c2-1)) ys):=fun e=>by
       have:=HI2.out.tail;rw[if_pos e]at this;exact this
      have HB2:Hid (¬c2=1->InH w (.slice (some ⟨b2,o2+2,none⟩) n2 (c2-1)) ys):=fun e=>by
       have:=HI2.out.tail;rw[if_neg e]at this;exact this
      have HC2:Hid (c2=1->InH w (.slice (some ⟨b2,o2,none⟩) n2 0) ys):=fun e=>by
       have:=HI2.out.tail;rw[if_pos e,e]at this;exact this
      have HVB0:∀g,u7.ownBlock=some g->g<W2.heap.size:=fun g e=>(HM.out.o.lt g e).2;go_wp2_with fail
      all_goals (
       have HHV:Hid (HV W2.heap.size x (W2.alloc (.cells #[.int .i64 x.r,.int .i64 x.o] 47))):=HV.new W2 x;have HM:Hid _:=TE.step HM.out ((Below.refl W2.heap.size W2).alloc (Nat.le_refl _) (.cells #[.int .i64 x.r,.int .i64 x.o] 47));have hs3:W2.heap.size<(W2.alloc (.cells #[.int .i64 x.r,.int .i64 x.o] 47)).heap.size:=by simp
       generalize (W2.alloc (.cells #[.int .i64 x.r,.int .i64 x.o] 47))=W4 at *;clear x1 x2 y1 y2;obtain⟨_,y1,y2⟩:=HX2.out.below HM.out.b;obtain⟨_,v1,v2,vf1,vf2⟩:=HHV.out;have HY:=HX2;obtain⟨yl,yl2⟩:=HK2.out y (by simp);obtain⟨xl,xl2⟩:=HK1.out x (by simp);have hw1:IntKind.i64.wrap (x.o+y.o)=x.o+y.o:=By _ (by omega) (by omega);have HVB:Hid (∀g,u7.ownBlock=some g->g<W2.heap.size):=HVB0;refine Dt (S:=fun wx=>wx.cell? ⟨b2,o2,none⟩=some (.int .i64 y.r)/\wx.cell? ⟨b2,o2+1,none⟩=some (.int .i64 y.o)/\wx.cell? ⟨W2.heap.size,1,none⟩=some (.int .i64 (x.o))) (js:=12) (by kernel_rfl) (⟨y1,y2,v2⟩) ?_;intro g0;refine Ae (i:=0) (oi:={dst:=some 64,op:=Op.move (Operand.tmp 2),type:=41,pos:= "find.go:125",after:= #[],guard:=none}) (v:= .slice (some ⟨b2,o2,none⟩) (n2+1) c2) rfl (by kernel_rfl) (by kernel_rfl) (by kernel_rfl) (fun _ _ _ h=>h) (by decide) (by kernel_rfl) (Or.inl ⟨by rfl,fun wx _=>by go_simp⟩) g0 ?_;simp only[Act.put,List.setIfInBounds_toArray,List.set_cons_zero,List.set_cons_succ];refine Ae (i:=1) (oi:={dst:=some 65,op:=Op.indexAddr 41 (Operand.tmp 64) (Operand.const (Value.int IntKind.i64 0)),type:=0,pos:= "find.go:125",after:= #[{on:=0,ground:=Ground.data}],guard:=none}) (v:= .pointer (some ⟨b2,o2,none⟩)) rfl (by kernel_rfl) (by kernel_rfl) (by kernel_rfl) (fun _ _ _ h=>h) (by decide) (by kernel_rfl) (Or.inl ⟨by rfl,fun wx _=>by go_simp⟩) g0 ?_;simp only[Act.put,List.setIfInBounds_toArray,List.set_cons_zero,List.set_cons_succ];refine Ae (i:=2) (oi:={dst:=some 66,op:=Op.fieldAddr 47 (Operand.tmp 65) 0,type:=0,pos:= "find.go:125",after:= #[{on:=1,ground:=Ground.data}],guard:=none}) (v:= .pointer (some ⟨b2,o2,none⟩)) rfl (by kernel_rfl) (by kernel_rfl) (by kernel_rfl) (fun _ _ _ h=>h) (by decide) (by kernel_rfl) (Or.inl ⟨by rfl,fun wx _=>by go_simp⟩) g0 ?_;simp only[Act.put,List.setIfInBounds_toArray,List.set_cons_zero,List.set_cons_succ];refine Ae (i:=3) (oi:={dst:=some 67,op:=Op.load 3 (Operand.tmp 66),type:=3,pos:= "find.go:125",after:= #[{on:=2,ground:=Ground.data}],guard:=none}) (v:= .int .i64 y.r) rfl (by kernel_rfl) (by kernel_rfl) (by kernel_rfl) (fun _ _ _ h=>h) (by decide) (by kernel_rfl) (Or.inl ⟨by rfl,fun wx h=>by have h8:=h.1;go_simp⟩) g0 ?_;simp only[Act.put,List.setIfInBounds_toArray,List.set_cons_zero,List.set_cons_succ];refine Ae (i:=4) (oi:={dst:=some 68,op:=Op.fieldAddr 47 (Operand.tmp 10) 1,type:=0,pos:= "find.go:125",after:= #[],guard:=none}) (v:= .pointer (some ⟨W2.heap.size,1,none⟩)) rfl (by kernel_rfl) (by kernel_rfl) (by kernel_rfl) (fun _ _ _ h=>h) (by decide) (by kernel_rfl) (Or.inl ⟨by rfl,fun wx _=>by go_simp⟩) g0 ?_;simp only[Act.put,List.setIfInBounds_toArray,List.set_cons_zero,List.set_cons_succ];refine Ae (i:=5) (oi:={dst:=some 69,op:=Op.load 3 (Operand.tmp 68),type:=3,pos:= "find.go:125",after:= #[{on:=4,ground:=Ground.data}],guard:=none}) (v:= .int .i64 (x.o)) rfl (by kernel_rfl) (by kernel_rfl) (by kernel_rfl) (fun _ _ _ h=>h) (by decide) (by kernel_rfl) (Or.inl ⟨by rfl,fun wx h=>by have h8:=h.2.2;go_simp⟩) g0 ?_;simp only[Act.put,List.setIfInBounds_toArray,List.set_cons_zero,List.set_cons_succ];refine Ae (i:=6) (oi:={dst:=some 70,op:=Op.move (Operand.tmp 2),type:=41,pos:= "find.go:125",after:= #[],guard:=none}) (v:= .slice (some ⟨b2,o2,none⟩) (n2+1) c2) rfl (by kernel_rfl) (by kernel_rfl) (by kernel_rfl) (fun _ _ _ h=>h) (by decide) (by kernel_rfl) (Or.inl ⟨by rfl,fun wx _=>by go_simp⟩) g0 ?_;simp only[Act.put,List.setIfInBounds_toArray,List.set_cons_zero,List.set_cons_succ];refine Ae (i:=7) (oi:={dst:=some 71,op:=Op.indexAddr 41 (Operand.tmp 70) (Operand.const (Value.int IntKind.i64 0)),type:=0,pos:= "find.go:125",after:= #[{on:=6,ground:=Ground.data}],guard:=none}) (v:= .pointer (some ⟨b2,o2,none⟩)) rfl (by kernel_rfl) (by kernel_rfl) (by kernel_rfl) (fun _ _ _ h=>h) (by decide) (by kernel_rfl) (Or.inl ⟨by rfl,fun wx _=>by go_simp⟩) g0 ?_;simp only[Act.put,List.setIfInBounds_toArray,List.set_cons_zero,List.set_cons_succ];refine Ae (i:=8) (oi:={dst:=some 72,op:=Op.fieldAddr 47 (Operand.tmp 71) 1,type:=0,pos:= "find.go:125",after:= #[{on:=7,ground:=Ground.data}],guard:=none}) (v:= .pointer (some ⟨b2,o2+1,none⟩)) rfl (by kernel_rfl) (by kernel_rfl) (by kernel_rfl) (fun _ _ _ h=>h) (by decide) (by kernel_rfl) (Or.inl ⟨by rfl,fun wx _=>by go_simp⟩) g0 ?_;simp only[Act.put,List.setIfInBounds_toArray,List.set_cons_zero,List.set_cons_succ];refine Ae (i:=9) (oi:={dst:=some 73,op:=Op.load 3 (Operand.tmp 72),type:=3,pos:= "find.go:125",after:= #[{on:=8,ground:=Ground.data}],guard:=none}) (v:= .int .i64 y.o) rfl (by kernel_rfl) (by kernel_rfl) (by kernel_rfl) (fun _ _ _ h=>h) (by decide) (by kernel_rfl) (Or.inl ⟨by rfl,fun wx h=>by have h8:=h.2.1;go_simp⟩) g0 ?_;simp only[Act.put,List.setIfInBounds_toArray,List.set_cons_zero,List.set_cons_succ];refine Ae (i:=10) (oi:={dst:=some 74,op:=Op.binOp BinOp.add 3 (Operand.tmp 69) (Operand.tmp 73) 3,type:=3,pos:= "find.go:125",after:= #[{on:=5,ground:=Ground.data},{on:=9,ground:=Ground.data}],guard:=none}) (v:= .int .i64 (x.o+y.o)) rfl (by kernel_rfl) (by kernel_rfl) (by kernel_rfl) (fun _ _ _ h=>h) (by decide) (by kernel_rfl) (Or.inl ⟨by rfl,fun wx _=>by go_simp⟩) g0 ?_;simp only[Act.put,List.setIfInBounds_toArray,List.set_cons_zero,List.set_cons_succ];refine Ae (i:=11) (oi:={dst:=some 75,op:=Op.build 47 #[(0,Operand.tmp 67),(1,Operand.tmp 74)],type:=47,pos:= "find.go:125",after:= #[{on:=3,ground:=Ground.data},{on:=10,ground:=Ground.data}],guard:=none}) (v:= .agg #[.int .i64 y.r,.int .i64 (x.o+y.o)]) rfl (by kernel_rfl) (by kernel_rfl) (by kernel_rfl) (fun _ _ _ h=>h) (by decide) (by kernel_rfl) (Or.inl ⟨by rfl,fun wx _=>by go_simp⟩) g0 ?_;simp only[Act.put,List.setIfInBounds_toArray,List.set_cons_zero,List.set_cons_succ];refine EM (o:={dst:=none,op:=Op.store 47 (Operand.tmp 10) (Operand.tmp 75),type:=0,pos:= "find.go:125",after:= #[{on:=11,ground:=Ground.data},{on:=0,ground:=Ground.phase},{on:=1,ground:=Ground.phase},{on:=2,ground:=Ground.phase},{on:=3,ground:=Ground.phase},{on:=4,ground:=Ground.phase},{on:=5,ground:=Ground.phase},{on:=6,ground:=Ground.phase},{on:=7,ground:=Ground.phase},{on:=8,ground:=Ground.phase},{on:=9,ground:=Ground.phase},{on:=10,ground:=Ground.phase},{on:=11,ground:=Ground.phase}],guard:=none}) (by kernel_rfl) (by kernel_rfl) rfl (by rfl) (fun K hK=> ?_);have v3:W4.drew.frozen? ⟨W2.heap.size,0,none⟩=false:=vf1;have v4:W4.drew.frozen? ⟨W2.heap.size,1,none⟩=false:=vf2;have v5:W4.drew.cell? ⟨W2.heap.size,0,none⟩=some (.int .i64 (x.r)):=v1;have v6:W4.drew.cell? ⟨W2.heap.size,1,none⟩=some (.int .i64 (x.o)):=v2
       go_simp
       refine hK.out _ _ ?_;clear hK K
       try simp only[Act.put,List.setIfInBounds_toArray,List.set_cons_zero,List.set_cons_succ]
       have HHV:Hid (HV W2.heap.size (⟨y.r,x.o+y.o⟩:Ht) ((W4.setCell ⟨W2.heap.size,0,none⟩ (.int .i64 y.r)).setCell ⟨W2.heap.size,1,none⟩ (.int .i64 (x.o+y.o))).drew):=(HV.put HHV.out (⟨y.r,x.o+y.o⟩:Ht)).below (Below.refl _ _).drew;have HM:Hid (TE w u7 l ((W4.setCell ⟨W2.heap.size,0,none⟩ (.int .i64 y.r)).setCell ⟨W2.heap.size,1,none⟩ (.int .i64 (x.o+y.o))).drew):=(TE.put HM.out hs2 HVB.out _ _).step (Below.refl _ _).drew;have hs4:W2.heap.size<((W4.setCell ⟨W2.heap.size,0,none⟩ (.int .i64 y.r)).setCell ⟨W2.heap.size,1,none⟩ (.int .i64 (x.o+y.o))).drew.heap.size:=by simp[World.setCell,World.drew];exact hs3
       generalize ((W4.setCell ⟨W2.heap.size,0,none⟩ (.int .i64 y.r)).setCell ⟨W2.heap.size,1,none⟩ (.int .i64 (x.o+y.o))).drew=W3 at *;clear v1 v2 v3 v4 v5 v6 y1 y2 vf1 vf2 g0;go_wp2_with fail
       all_goals (
        obtain⟨_,v1,v2,_,_⟩:=HHV.out;refine(FS k true true st HST.out _).mono ?_;rintro _ w9 ⟨rfl,h9⟩;obtain rfl:=h9.symm;clear h9
        cases st
        ·have HZ3:Hid (l++Ak k (xs) (ys)=T):=by
          show _=_;have:=HZ2.out;simpa using this
         clear HZ2;go_wp2;go_roundw
         case rel=>exact⟨xs,ys,l,⟨by first|exact HA1.out (by assumption)|exact HB1.out (by assumption)|exact HC1.out (by assumption),by first|exact HA2.out (by assumption)|exact HB2.out (by assumption)|exact HC2.out (by assumption),HZ3.out,fun z hz=>HK1.out z (by simp[hz]),fun z hz=>HK2.out z (by simp[hz])⟩,HM.out,by have q:=hlen;have e1:=HN1.out;have e2:=HN2.out;(try simp at q ⊢);omega⟩
         case measure=>simp[A4]<;>omega
        ·have HZ3:Hid ((l++[(⟨y.r,x.o+y.o⟩:Ht)])++Ak k (xs) (ys)=T):=by
          show _=_;have:=HZ2.out;simpa using this
         clear HZ2
         go_wp2_with (at_builtin;refine wpList_append_own _ rfl _ _ 41 rfl w.heap.size 47 i0 (.agg #[.int .i64 0,.int .i64 0]) 2 16 Tryz.underlying41 hi hz0 hz1 hz2 rfl (by decide) _ _ _ rfl (HM.out.o.alloc _) ⟨W3.heap.size,0,none⟩ 1 1 (htc [(⟨y.r,x.o+y.o⟩:Ht)]) rfl rfl (EW W3 (⟨y.r,x.o+y.o⟩:Ht) 47) (FX _) (by simp[maxLen];omega) (by omega) (by simp;omega) ?_)
         intro v3 w3 ho3 hg3 _;have HB3:Hid (Below w.heap.size w w3):=(HM.out.b.alloc HM.out.b.size _).grown hg3 (by have:=HM.out.b.size;simp;omega) (fun g hg=>(HM.out.o.lt g hg).1);have HO3:Hid (w3.ownsRow w.heap.size 47 2 v3 (l++[(⟨y.r,x.o+y.o⟩:Ht)]).length (htc (l++[(⟨y.r,x.o+y.o⟩:Ht)]))):=Bc ho3 (by simp) (by rw[De]);clear ho3 hg3;go_wp2;go_roundw
         case rel=>exact⟨xs,ys,l++[(⟨y.r,x.o+y.o⟩:Ht)],⟨by first|exact HA1.out (by assumption)|exact HB1.out (by assumption)|exact HC1.out (by assumption),by first|exact HA2.out (by assumption)|exact HB2.out (by assumption)|exact HC2.out (by assumption),HZ3.out,fun z hz=>HK1.out z (by simp[hz]),fun z hz=>HK2.out z (by simp[hz])⟩,⟨HB3.out,HO3.out⟩,by have q:=hlen;have e1:=HN1.out;have e2:=HN2.out;(try simp at q ⊢);omega⟩
         case measure=>simp[A4]<;>omega))
end
end Go.Proofs.YtgfldnaahojnlaaGreatDoor
