/- MatchFinds: part 46. -/
import Derived.Test.YtgfldnaahojnlaaGreatDoorF45
set_option maxRecDepth 100000
set_option maxHeartbeats 4000000
namespace Go.Proofs.YtgfldnaahojnlaaGreatDoor
section
open Go.RowKit
theorem Qq {s:Sl} {B:Nat} {w:World} {d:Array Pl} {wx:World} (h:SE s B w d wx) (lo hi first:Nat) (hb:first+hi<=s.n) (hlo:lo<=s.n) {x y z:Int} (hx:x=lo) (hy:y=hi) (hz:z=first):
  Calls Tryz.prog 234 #[.agg #[(Value.func (.func 104) #[] #[.pointer (some ⟨s.Bs,0,none⟩)]),(Value.func (.func s.sf) #[] s.sb)],.int .i64 x,.int .i64 y,.int .i64 z] wx fun e w'=>e= .returned (.tuple #[])/\SE s B w (Sort.siftDown ltB hi first lo d) w':=by
 subst hx hy hz;exact(VU s d wx h.2.2.1 lo hi first hb hlo).mono fun _ _ ⟨he,h1,h2⟩=>⟨he,h.grown h2 h1⟩
set_option maxHeartbeats 2000000
theorem WD (s:Sl) (d:Array Pl) (w:World) (h:SS s d w) (a b:Nat) (hab:a<b) (hb:b<=s.n):
  Calls Tryz.prog 210 #[.agg #[(Value.func (.func 104) #[] #[.pointer (some ⟨s.Bs,0,none⟩)]),(Value.func (.func s.sf) #[] s.sb)],.int .i64 a,.int .i64 b] w fun e w'=>e= .returned (.tuple #[])/\SS s (Sort.heapSort ltB d a b) w'/\w.grownBy w' (some s.blk):=by
 have hn:=h.2.2.2.1.2.2.2;have HE:Hid (SE s w.heap.size w d (w.alloc (.cells #[(Value.func (.func 104) #[] #[.pointer (some ⟨s.Bs,0,none⟩)]),(Value.func (.func s.sf) #[] s.sb)] 242))):=SE.box h;clear h;have q1:(0:Int)<=(b:Int)-a-1:=by omega
 go_enter Tryz.func210,Tryz.ntmps210;go_wp2;go_loopw [9] (fun vi wr=>∃(k:Nat) (i:Int) (dk:Array Pl),vi= .int .i64 i/\i+1=k/\k<=b-a/\Hid (SE s w.heap.size w dk wr/\Sort.heapPop ltB a (b-a) (Sort.heapBuild ltB (b-a) a k dk)=Sort.heapSort ltB d a b)) (fun vi _=>(intOf vi+1).toNat)
 case atStart=>
  refine⟨(b-a-1) / 2+1,((b-a-1) / 2:Nat),d,?_,by omega,by omega,HE.out,rfl⟩;congr 1
  first|omega|(rw[Int.tdiv_eq_ediv_of_nonneg (by omega)];omega)|(trace_state;omega)
 case round=>
  clear HE;obtain⟨k,i,dk,rfl,hik,hk,hz⟩:=hrel;have HE:Hid (SE s w.heap.size w dk wr):=hz.out.1;obtain⟨c0,c1⟩:=hz.out.1.1
  cases k with
  |zero=>
   have e:i= -1:=by omega
   subst e;have HX:Hid (Sort.heapPop ltB a (b-a) dk=Sort.heapSort ltB d a b):=hz.out.2;clear hz;go_wp2;go_loopw [10] (fun vi wr=>∃(k:Nat) (i:Int) (dk:Array Pl),vi= .int .i64 i/\i+1=k/\k<=b-a/\Hid (SE s w.heap.size w dk wr/\Sort.heapPop ltB a k dk=Sort.heapSort ltB d a b)) (fun vi _=>(intOf vi+1).toNat)
   case atStart=>exact⟨b-a,_,dk,rfl,by omega,by omega,HE.out,HX.out⟩
   case round=>
    clear HE HX;obtain⟨k,i,dk,rfl,hik,hk,hz⟩:=hrel;have HE:Hid (SE s w.heap.size w dk wr):=hz.out.1;obtain⟨c0,c1⟩:=hz.out.1.1
    cases k with
    |zero=>
     have e:i= -1:=by omega
     subst e;have HX:Hid (dk=Sort.heapSort ltB d a b):=hz.out.2;clear hz;go_wp2;go_end0;exact⟨rfl,by rw[<-HX.out];exact HE.out.2.2.1,HE.out.2.2.2⟩
    |succ k=>
     have HX:Hid (Sort.heapPop ltB a k (Sort.siftDown ltB k a 0 (Sort.swp dk a (a+k)))=Sort.heapSort ltB d a b):=hz.out.2;clear hz;have e:i=k:=by omega
     subst e
     go_wp2_with (fail)
     refine AL HE.out a (a+k) (by omega) (by omega) (by omega) (by omega) ?_;intro w2 he2;rw[Oper.upon_value];obtain⟨c0,c1⟩:=he2.1;have HE2:Hid _:=he2;clear he2
     go_wp2_with (go_at_call 234;refine(Qq HE2.out 0 k a (by omega) (by omega) (by omega) (by omega) (by omega)).mono ?_;rintro e w3 ⟨rfl,he3⟩;have HE3:Hid _:=he3;clear he3)
     go_roundw
     case rel=>exact⟨k,(k:Int)-1,_,rfl,by omega,by omega,HE3.out,HX.out⟩
     case measure=>simp[intOf]
  |succ k=>
   have HX:Hid (Sort.heapPop ltB a (b-a) (Sort.heapBuild ltB (b-a) a k (Sort.siftDown ltB (b-a) a k dk))=Sort.heapSort ltB d a b):=hz.out.2;clear hz;have e:i=k:=by omega
   subst e
   go_wp2_with (go_at_call 234;refine(Qq HE.out k (b-a) a (by omega) (by omega) (by omega) (by omega) (by omega)).mono ?_;rintro e w3 ⟨rfl,he3⟩;have HE3:Hid _:=he3;clear he3)
   go_roundw
   case rel=>exact⟨k,(k:Int)-1,_,rfl,by omega,by omega,HE3.out,HX.out⟩
   case measure=>simp[intOf]
def SP (s:Sl) (C n:Nat) (d:Array Pl) (wx:World):Prop:=
 SS s d wx/\wx.cell? ⟨C,0,none⟩=some (.int .i64 n)/\wx.frozen? ⟨C,0,none⟩=false/\(C<wx.heap.size/\C≠s.blk/\C≠s.Bs)
theorem SP.step {s:Sl} {C n:Nat} {d:Array Pl} {wx wy:World} (h:SP s C n d wx) (hb:Below wx.heap.size wx wy):SP s C n d wy:=by
 obtain⟨h1,h2,h3,h4,h5,h6⟩:=h;have:=hb.size;have e:wy.heap[C]? =wx.heap[C]? :=hb.block C h4;exact⟨h1.below hb,by rw[World.cell?_of_block (w:=wx) (a:=⟨C,0,none⟩) e];exact h2,by rw[World.frozen?_of_block (w:=wx) (a:=⟨C,0,none⟩) e];exact h3,by omega,h5,h6⟩
theorem SP.set {s:Sl} {C n:Nat} {d:Array Pl} {wx:World} (h:SP s C n d wx) (m:Nat) {x:Int} (hx:x=m):SP s C m d (wx.setCell ⟨C,0,none⟩ (.int .i64 x)):=by
 subst hx;obtain⟨⟨a1,a2,a3,⟨a4,a5,a6,a7⟩,a8⟩,h2,h3,h4,h5,h6⟩:=h;have hs:(wx.setCell ⟨C,0,none⟩ (.int .i64 m)).heap.size=wx.heap.size:=by simp[World.setCell]
 refine⟨⟨EY a1 (Below.heap_setCell _ _ _ _ (by exact fun e=>h5 e.symm)),a2,?_,⟨a4,by omega,by omega,a7⟩,a8⟩,World.cell?_setCell_same _ _ _ h2,by rw[World.frozen?_setCell];exact h3,by omega,h5,h6⟩;rw[World.cell?_setCell_other _ _ _ _ (fun e=>by cases e;exact h6 rfl)];exact a3
theorem Fo {lt:Pl->Pl->Bool} {d:Array Pl} {a b n N:Nat} (ha:a<N) (hb:b<N):(Sort.order2 lt d a b n).1<N/\(Sort.order2 lt d a b n).2.1<N/\(Sort.order2 lt d a b n).2.2<=n+1:=by
 unfold Sort.order2;split<;>exact⟨by assumption,by assumption,by simp⟩
theorem RN (s:Sl) (C n:Nat) (d:Array Pl) (w:World) (h:SP s C n d w) (a b:Nat) (ha:a<s.n) (hb:b<s.n) (hn:n<1000):
  Calls Tryz.prog 257 #[.agg #[(Value.func (.func 104) #[] #[.pointer (some ⟨s.Bs,0,none⟩)]),(Value.func (.func s.sf) #[] s.sb)],.int .i64 a,.int .i64 b,.pointer (some ⟨C,0,none⟩)] w fun e w'=>
   e= .returned (.tuple #[.int .i64 (Sort.order2 ltB d a b n).1,.int .i64 (Sort.order2 ltB d a b n).2.1])/\SP s C (Sort.order2 ltB d a b n).2.2 d w'/\w.grownBy w' (some C):=by
 have HB:Hid (Below w.heap.size w (w.alloc (.cells #[(Value.func (.func 104) #[] #[.pointer (some ⟨s.Bs,0,none⟩)]),(Value.func (.func s.sf) #[] s.sb)] 242))):=(Below.refl _ _).alloc (Nat.le_refl _) _;have HP:Hid (SP s C n d (w.alloc (.cells #[(Value.func (.func 104) #[] #[.pointer (some ⟨s.Bs,0,none⟩)]),(Value.func (.func s.sf) #[] s.sb)] 242))):=SP.step h HB.out;clear h;obtain⟨lb,hlb⟩:∃lb,ltB d[b]! d[a]! =lb:=⟨_,rfl⟩;have hl:=Q8 s d _ HP.out.1 b a hb ha;rw[hlb]at hl;have HL:Hid (Sort.order2 ltB d a b n=if lb=true then(b,a,n+1)else(a,b,n)):=by show _=_;rw[Sort.order2,hlb]
 rw[HL.out];clear HL hlb
 cases lb
 ·go_enter Tryz.func257,Tryz.ntmps257
  go_wp2_with (go_at_call 104;refine hl.mono ?_;rintro e w1 ⟨rfl,hb1⟩;have HB1:Hid _:=hb1;clear hb1)
  go_ret2;exact⟨rfl,HP.out.step HB1.out,(Aq HB.out _).trans (Aq HB1.out _)⟩
 ·go_enter Tryz.func257,Tryz.ntmps257
  go_wp2_with (go_at_call 104;refine hl.mono ?_;rintro e w1 ⟨rfl,hb1⟩;have HB1:Hid _:=hb1;have HP1:Hid _:=HP.out.step hb1;clear hb1;have c1:=HP1.out.2.1;have c2:=HP1.out.2.2.1)
  go_ret2;exact⟨rfl,SP.set HP1.out (n+1) (by omega),((Aq HB.out _).trans (Aq HB1.out _)).trans (Dm _ _ _ _)⟩
def MP (s:Sl) (B C:Nat) (w:World) (n:Nat) (d:Array Pl) (wx:World):Prop:=
 (wx.cell? ⟨B,0,none⟩=some (Value.func (.func 104) #[] #[.pointer (some ⟨s.Bs,0,none⟩)])/\wx.cell? ⟨B,1,none⟩=some (Value.func (.func s.sf) #[] s.sb))/\(B<wx.heap.size/\B≠C)/\SP s C n d wx/\w.grownBy wx (some C)
theorem MP.grown {s:Sl} {B C:Nat} {w:World} {n m:Nat} {d:Array Pl} {wx wy:World} (h:MP s B C w n d wx) (hp:SP s C m d wy) (hg:wx.grownBy wy (some C)):MP s B C w m d wy:=by
 obtain⟨⟨h1,h2⟩,⟨h3,h4⟩,h5,h6⟩:=h;have:=hg.size;exact⟨⟨hg.cell h1 (by simpa using h4),hg.cell h2 (by simpa using h4)⟩,⟨by omega,h4⟩,hp,h6.trans hg⟩
theorem MP.box {s:Sl} {C n:Nat} {d:Array Pl} {w:World} (h:SP s C n d w):MP s w.heap.size C w n d (w.alloc (.cells #[(Value.func (.func 104) #[] #[.pointer (some ⟨s.Bs,0,none⟩)]),(Value.func (.func s.sf) #[] s.sb)] 242)):=by
 have hb:Below w.heap.size w (w.alloc (.cells #[(Value.func (.func 104) #[] #[.pointer (some ⟨s.Bs,0,none⟩)]),(Value.func (.func s.sf) #[] s.sb)] 242)):=(Below.refl _ _).alloc (Nat.le_refl _) _;refine⟨⟨by simp,by simp⟩,⟨by simp,?_⟩,h.step hb,Aq hb _⟩;have:=h.2.2.2.1;omega
theorem I7 {s:Sl} {B C:Nat} {w:World} {n:Nat} {d:Array Pl} {wx:World} (h:MP s B C w n d wx) (a b:Nat) (ha:a<s.n) (hb:b<s.n) (hn:n<1000) (r:Nat×Nat×Nat) (hr:Sort.order2 ltB d a b n=r):
  Calls Tryz.prog 257 #[.agg #[(Value.func (.func 104) #[] #[.pointer (some ⟨s.Bs,0,none⟩)]),(Value.func (.func s.sf) #[] s.sb)],.int .i64 a,.int .i64 b,.pointer (some ⟨C,0,none⟩)] wx fun e w'=>e= .returned (.tuple #[.int .i64 r.1,.int .i64 r.2.1])/\MP s B C w r.2.2 d w':=by
 subst hr;exact(RN s C n d wx h.2.2.1 a b ha hb hn).mono fun _ _ ⟨he,h1,h2⟩=>⟨he,h.grown h1 h2⟩
theorem IC {lt:Pl->Pl->Bool} {d:Array Pl} {a b c n N:Nat} (ha:a<N) (hb:b<N) (hc:c<N):(Sort.median lt d a b c n).1<N/\(Sort.median lt d a b c n).2<=n+3:=by
 obtain⟨x1,x2,x3⟩:=Fo (lt:=lt) (d:=d) (n:=n) ha hb;obtain⟨y1,y2,y3⟩:=Fo (lt:=lt) (d:=d) (n:=(Sort.order2 lt d a b n).2.2) x2 hc;obtain⟨z1,z2,z3⟩:=Fo (lt:=lt) (d:=d) (n:=(Sort.order2 lt d (Sort.order2 lt d a b n).2.1 c (Sort.order2 lt d a b n).2.2).2.2) x1 y1;exact⟨z2,by show(Sort.order2 lt d _ _ _).2.2<=_;omega⟩
theorem Sh (s:Sl) (C n:Nat) (d:Array Pl) (w:World) (h:SP s C n d w) (a b c:Nat) (ha:a<s.n) (hb:b<s.n) (hc:c<s.n) (hn:n<900):
  Calls Tryz.prog 238 #[.agg #[(Value.func (.func 104) #[] #[.pointer (some ⟨s.Bs,0,none⟩)]),(Value.func (.func s.sf) #[] s.sb)],.int .i64 a,.int .i64 b,.int .i64 c,.pointer (some ⟨C,0,none⟩)] w fun e w'=>
   e= .returned (.int .i64 (Sort.median ltB d a b c n).1)/\SP s C (Sort.median ltB d a b c n).2 d w'/\w.grownBy w' (some C):=by
 obtain⟨⟨a1,b1,n1⟩,h1⟩:∃r,Sort.order2 ltB d a b n=r:=⟨_,rfl⟩;obtain⟨⟨a2,b2,n2⟩,h2⟩:∃r,Sort.order2 ltB d b1 c n1=r:=⟨_,rfl⟩;obtain⟨⟨a3,b3,n3⟩,h3⟩:∃r,Sort.order2 ltB d a1 a2 n2=r:=⟨_,rfl⟩;have hm:Sort.median ltB d a b c n=(b3,n3):=by simp only[Sort.median,h1,h2,h3]
 obtain⟨x1,x2,x3⟩:=Fo (lt:=ltB) (d:=d) (n:=n) ha hb;rw[h1]at x1 x2 x3;obtain⟨y1,y2,y3⟩:=Fo (lt:=ltB) (d:=d) (n:=n1) x2 hc;rw[h2]at y1 y2 y3;simp only at x1 x2 x3 y1 y2 y3;rw[hm];have HP:Hid (MP s w.heap.size C w n d (w.alloc (.cells #[(Value.func (.func 104) #[] #[.pointer (some ⟨s.Bs,0,none⟩)]),(Value.func (.func s.sf) #[] s.sb)] 242))):=MP.box h;have H1:Hid _:=h1;have H2:Hid _:=h2;have H3:Hid _:=h3;clear h hm h1 h2 h3;go_enter Tryz.func238,Tryz.ntmps238;go_wp2_with fail;refine(I7 HP.out a b ha hb (by omega) _ H1.out).mono ?_;rintro e w1 ⟨rfl,he1⟩;have HP1:Hid _:=he1;obtain⟨k1,k2⟩:=he1.1;clear he1;go_wp2_with fail;refine(I7 HP1.out b1 c x2 hc (by omega) _ H2.out).mono ?_;rintro e w2 ⟨rfl,he2⟩;have HP2:Hid _:=he2;obtain⟨k1,k2⟩:=he2.1;clear he2;go_wp2_with fail;refine(I7 HP2.out a1 a2 x1 y1 (by omega) _ H3.out).mono ?_;rintro e w3 ⟨rfl,he3⟩;have HP3:Hid _:=he3;clear he3;go_wp2;go_ret;exact⟨rfl,HP3.out.2.2.1,HP3.out.2.2.2⟩
theorem ID {s:Sl} {B C:Nat} {w:World} {n:Nat} {d:Array Pl} {wx:World} (h:MP s B C w n d wx) (a b c:Nat) (ha:a<s.n) (hb:b<s.n) (hc:c<s.n) (hn:n<900) (r:Nat×Nat) (hr:Sort.median ltB d a b c n=r) {x y z:Int} (hx:x=a) (hy:y=b) (hz:z=c):
  Calls Tryz.prog 238 #[.agg #[(Value.func (.func 104) #[] #[.pointer (some ⟨s.Bs,0,none⟩)]),(Value.func (.func s.sf) #[] s.sb)],.int .i64 x,.int .i64 y,.int .i64 z,.pointer (some ⟨C,0,none⟩)] wx fun e w'=>e= .returned (.int .i64 r.1)/\MP s B C w r.2 d w':=by
 subst hr hx hy hz;exact(Sh s C n d wx h.2.2.1 a b c ha hb hc hn).mono fun _ _ ⟨he,h1,h2⟩=>⟨he,h.grown h1 h2⟩
theorem OC (s:Sl) (C n:Nat) (d:Array Pl) (w:World) (h:SP s C n d w) (a:Nat) (ha:1<=a) (hb:a+1<s.n) (hn:n<900):
  Calls Tryz.prog 237 #[.agg #[(Value.func (.func 104) #[] #[.pointer (some ⟨s.Bs,0,none⟩)]),(Value.func (.func s.sf) #[] s.sb)],.int .i64 a,.pointer (some ⟨C,0,none⟩)] w fun e w'=>
   e= .returned (.int .i64 (Sort.medianAdjacent ltB d a n).1)/\SP s C (Sort.medianAdjacent ltB d a n).2 d w'/\w.grownBy w' (some C):=by
 obtain⟨r,hr⟩:∃r,Sort.medianAdjacent ltB d a n=r:=⟨_,rfl⟩;have hN:=h.1.2.2.2.1.2.2.2;rw[hr];have HP:Hid (MP s w.heap.size C w n d (w.alloc (.cells #[(Value.func (.func 104) #[] #[.pointer (some ⟨s.Bs,0,none⟩)]),(Value.func (.func s.sf) #[] s.sb)] 242))):=MP.box h;have HR:Hid (Sort.median ltB d (a-1) a (a+1) n=r):=hr;clear h hr;go_enter Tryz.func237,Tryz.ntmps237;go_wp2_with fail;refine(ID HP.out (a-1) a (a+1) (by omega) (by omega) (by omega) (by omega) _ HR.out (by omega) (by omega) (by omega)).mono ?_;rintro e w1 ⟨rfl,he1⟩;have HP1:Hid _:=he1;clear he1;go_wp2;go_ret;exact⟨rfl,HP1.out.2.2.1,HP1.out.2.2.2⟩
theorem Gp {s:Sl} {B C:Nat} {w:World} {n:Nat} {d:Array Pl} {wx:World} (h:MP s B C w n d wx) (a:Nat) (ha:1<=a) (hb:a+1<s.n) (hn:n<900) (r:Nat×Nat) (hr:Sort.medianAdjacent ltB d a n=r) {x:Int} (hx:x=a):
  Calls Tryz.prog 237 #[.agg #[(Value.func (.func 104) #[] #[.pointer (some ⟨s.Bs,0,none⟩)]),(Value.func (.func s.sf) #[] s.sb)],.int .i64 x,.pointer (some ⟨C,0,none⟩)] wx fun e w'=>e= .returned (.int .i64 r.1)/\MP s B C w r.2 d w':=by
 subst hr hx;exact(OC s C n d wx h.2.2.1 a ha hb hn).mono fun _ _ ⟨he,h1,h2⟩=>⟨he,h.grown h1 h2⟩
theorem Sv (n:Nat):Sort.hintCode (Sort.hintOf n)=if n=0 then 1 else if n=12 then 2 else 0:=by
 unfold Sort.hintOf
 by_cases h:n=0
 ·rw[if_pos h,if_pos h];rfl
 ·rw[if_neg h,if_neg h]
  by_cases h2:n=12
  ·rw[if_pos h2,if_pos h2];rfl
  ·rw[if_neg h2,if_neg h2];rfl
set_option maxHeartbeats 4000000
theorem TV (s:Sl) (d:Array Pl) (w:World) (h:SS s d w) (a b:Nat) (hab:a+12<b) (hb:b<=s.n):
  Calls Tryz.prog 212 #[.agg #[(Value.func (.func 104) #[] #[.pointer (some ⟨s.Bs,0,none⟩)]),(Value.func (.func s.sf) #[] s.sb)],.int .i64 a,.int .i64 b] w fun e w'=>
   e= .returned (.tuple #[.int .i64 (Sort.choosePivot ltB d a b).1,.int .i64 (Sort.hintCode (Sort.choosePivot ltB d a b).2)])/\SS s d w'/\Below w.heap.size w w':=by
 have hN:=h.2.2.2.1.2.2.2;rw[Sort.choosePivot_eq];obtain⟨m,hm⟩:∃m,m=(b-a) / 4:=⟨_,rfl⟩
 have hraw:Sort.rawPivot ltB d a b=if b-a>=50 then
   Sort.median ltB d (Sort.medianAdjacent ltB d (a+m) 0).1 (Sort.medianAdjacent ltB d (a+m * 2) (Sort.medianAdjacent ltB d (a+m) 0).2).1 (Sort.medianAdjacent ltB d (a+m * 3) (Sort.medianAdjacent ltB d (a+m * 2) (Sort.medianAdjacent ltB d (a+m) 0).2).2).1 (Sort.medianAdjacent ltB d (a+m * 3) (Sort.medianAdjacent ltB d (a+m * 2) (Sort.medianAdjacent ltB d (a+m) 0).2).2).2
  else Sort.median ltB d (a+m) (a+m * 2) (a+m * 3) 0:=by
  rw[Sort.rawPivot,if_pos (by omega),<-hm,Nat.mul_one]
 obtain⟨⟨pv,sw⟩,hr⟩:∃r,Sort.rawPivot ltB d a b=r:=⟨_,rfl⟩;rw[hr]at hraw;rw[hr];simp only[Sv];clear hr;obtain⟨w1,hw1⟩:∃w1,w1=w.alloc (.cells #[(Value.func (.func 104) #[] #[.pointer (some ⟨s.Bs,0,none⟩)]),(Value.func (.func s.sf) #[] s.sb)] 242):=⟨_,rfl⟩;have hb1:Below w.heap.size w w1:=by rw[hw1];exact(Below.refl _ _).alloc (Nat.le_refl _) _
 have hb2:Below w.heap.size w (w1.alloc (.cells #[.int .i64 0] 3)):=hb1.alloc hb1.size _;have hs1:w1.heap.size=w.heap.size+1:=by rw[hw1];simp
 have HP:Hid (MP s w.heap.size (w.heap.size+1) w 0 d (w1.alloc (.cells #[.int .i64 0] 3))):=by
  have hn:=heap_alloc_new w1 (.cells #[.int .i64 0] 3);have hn1:w1.heap[w.heap.size]? =some (.cells #[(Value.func (.func 104) #[] #[.pointer (some ⟨s.Bs,0,none⟩)]),(Value.func (.func s.sf) #[] s.sb)] 242):=by rw[hw1];exact heap_alloc_new w _
  have hn2:(w1.alloc (.cells #[.int .i64 0] 3)).heap[w.heap.size]? =some (.cells #[(Value.func (.func 104) #[] #[.pointer (some ⟨s.Bs,0,none⟩)]),(Value.func (.func s.sf) #[] s.sb)] 242):=by
   rw[Below.heap_alloc _ _ _ (by omega)];exact hn1
  rw[hs1]at hn;have hq:=h.2.2.2.1;refine⟨⟨by simp[World.cell?,hn2],by simp[World.cell?,hn2]⟩,⟨by simp[hs1]<;>omega,by omega⟩,⟨h.below hb2,by simp[World.cell?,hn],by simp[World.frozen?,hn],by simp[hs1]<;>omega,by omega,by omega⟩,?_⟩;exact Aq hb2 _
 have FIN:Hid (∀wx,w.grownBy wx (some (w.heap.size+1))->Below w.heap.size w wx):=fun wx hg=>(Below.refl _ _).grown hg (Nat.le_refl _) (fun k hk=>by cases hk;omega);have m1:(m:Int)=((b:Int)-a) / 4:=by omega
 have m2:((b:Int)-a).tdiv 4=m:=by rw[Int.tdiv_eq_ediv_of_nonneg (by omega)];omega
 have m3:3<=m:=by omega
 have m4:m * 4<=b-a:=by omega
 have MM:Hid (m=(b-a) / 4):=hm;clear hb1 hb2 hm m1 h
 by_cases h50:b-a>=50
 ·rw[if_pos h50]at hraw
  obtain⟨⟨p1,n1⟩,h1⟩:∃r,Sort.medianAdjacent ltB d (a+m) 0=r:=⟨_,rfl⟩;obtain⟨⟨p2,n2⟩,h2⟩:∃r,Sort.medianAdjacent ltB d (a+m * 2) n1=r:=⟨_,rfl⟩;obtain⟨⟨p3,n3⟩,h3⟩:∃r,Sort.medianAdjacent ltB d (a+m * 3) n2=r:=⟨_,rfl⟩;rw[h1]at hraw;simp only at hraw;rw[h2]at hraw;simp only at hraw;rw[h3]at hraw;simp only at hraw;obtain⟨x1,x2⟩:=IC (lt:=ltB) (d:=d) (a:=a+m-1) (b:=a+m) (c:=a+m+1) (n:=0) (N:=s.n) (by omega) (by omega) (by omega);rw[show Sort.median ltB d (a+m-1) (a+m) (a+m+1) 0=(p1,n1)from h1]at x1 x2;obtain⟨y1,y2⟩:=IC (lt:=ltB) (d:=d) (a:=a+m * 2-1) (b:=a+m * 2) (c:=a+m * 2+1) (n:=n1) (N:=s.n) (by omega) (by omega) (by omega);rw[show Sort.median ltB d (a+m * 2-1) (a+m * 2) (a+m * 2+1) n1=(p2,n2)from h2]at y1 y2;obtain⟨z1,z2⟩:=IC (lt:=ltB) (d:=d) (a:=a+m * 3-1) (b:=a+m * 3) (c:=a+m * 3+1) (n:=n2) (N:=s.n) (by omega) (by omega) (by omega);rw[show Sort.median ltB d (a+m * 3-1) (a+m * 3) (a+m * 3+1) n2=(p3,n3)from h3]at z1 z2;simp only at x1 x2 y1 y2 z1 z2;have i50:(50:Int)<=(b:Int)-a:=by omega
  have i8:(8:Int)<=(b:Int)-a:=by omega
  have H1:Hid _:=h1;have H2:Hid _:=h2;have H3:Hid _:=h3;have HW:Hid _:=hraw.symm;clear h1 h2 h3 hraw;subst hw1;go_enter Tryz.func212,Tryz.ntmps212;go_wp2_with fail;refine(Gp HP.out (a+m) (by omega) (by omega) (by omega) _ H1.out (by omega)).mono ?_;rintro e v1 ⟨rfl,he1⟩;have HP1:Hid _:=he1;obtain⟨k1,k2⟩:=he1.1;clear he1;go_wp2_with fail;refine(Gp HP1.out (a+m * 2) (by omega) (by omega) (by omega) _ H2.out (by omega)).mono ?_;rintro e v2 ⟨rfl,he2⟩;have HP2:Hid _:=he2;obtain⟨k1,k2⟩:=he2.1;clear he2;go_wp2_with fail;refine(Gp HP2.out (a+m * 3) (by omega) (by omega) (by omega) _ H3.out (by omega)).mono ?_;rintro e v3 ⟨rfl,he3⟩;have HP3:Hid _:=he3;obtain⟨k1,k2⟩:=he3.1;clear he3;go_wp2_with fail;refine(ID HP3.out p1 p2 p3 x1 y1 z1 (by omega) _ HW.out (by omega) (by omega) (by omega)).mono ?_;rintro e v4 ⟨rfl,he4⟩;have HF:Hid _:=he4;have k3:=he4.2.2.1.2.1;clear he4
  by_cases z0:sw=0
  ·subst z0
   go_wp2;go_ret2;exact⟨rfl,HF.out.2.2.1.1,FIN.out _ HF.out.2.2.2⟩
  ·have z1:¬(sw:Int)=0:=by omega
   have z1':((sw:Int) == 0)=false:=by simpa using z1
   by_cases z2:sw=12
   ·subst z2
    go_wp2;go_ret2;exact⟨rfl,HF.out.2.2.1.1,FIN.out _ HF.out.2.2.2⟩
   ·have z3:¬(sw:Int)=12:=by omega
    have z3':((sw:Int) == 12)=false:=by simpa using z3
    have HI:Hid ((if sw=0 then(1:Int)else if sw=12 then 2 else 0)=0):=by show _=_;rw[if_neg z0,if_neg z2]
    go_wp2;go_ret2;exact⟨by first|rfl|(rw[HI.out];rfl)|(rw[if_neg z0,if_neg z2];rfl),HF.out.2.2.1.1,FIN.out _ HF.out.2.2.2⟩
 ·rw[if_neg h50]at hraw
  have i50:¬(50:Int)<=(b:Int)-a:=by omega
  have i8:(8:Int)<=(b:Int)-a:=by omega
  have HW:Hid _:=hraw.symm;clear hraw;subst hw1;go_enter Tryz.func212,Tryz.ntmps212;go_wp2_with fail;refine(ID HP.out (a+m) (a+m * 2) (a+m * 3) (by omega) (by omega) (by omega) (by omega) _ HW.out (by omega) (by omega) (by omega)).mono ?_;rintro e v4 ⟨rfl,he4⟩;have HF:Hid _:=he4;have k3:=he4.2.2.1.2.1;clear he4
  by_cases z0:sw=0
  ·subst z0
   go_wp2;go_ret2;exact⟨rfl,HF.out.2.2.1.1,FIN.out _ HF.out.2.2.2⟩
  ·have z1:¬(sw:Int)=0:=by omega
   have z1':((sw:Int) == 0)=false:=by simpa using z1
   by_cases z2:sw=12
   ·subst z2
    go_wp2;go_ret2;exact⟨rfl,HF.out.2.2.1.1,FIN.out _ HF.out.2.2.2⟩
   ·have z3:¬(sw:Int)=12:=by omega
    have z3':((sw:Int) == 12)=false:=by simpa using z3
    have HI:Hid ((if sw=0 then(1:Int)else if sw=12 then 2 else 0)=0):=by show _=_;rw[if_neg z0,if_neg z2]
    go_wp2;go_ret2;exact⟨by first|rfl|(rw[HI.out];rfl)|(rw[if_neg z0,if_neg z2];rfl),HF.out.2.2.1.1,FIN.out _ HF.out.2.2.2⟩
theorem Tq {p:Pl->Bool} {d:Array Pl} {j i:Nat} (h:i<=j) (hp:p d[i]! =true):Sort.scanUp p d j i=Sort.scanUp p d j (i+1):=by
 rw[Sort.scanUp,if_pos (by simp only[Bool.and_eq_true,decide_eq_true_eq];exact⟨h,hp⟩)]
theorem Gt {p:Pl->Bool} {d:Array Pl} {j i:Nat} (h:¬i<=j\/p d[i]! =false):Sort.scanUp p d j i=i:=by
 rw[Sort.scanUp,if_neg];simp only[Bool.and_eq_true,decide_eq_true_eq];rintro⟨h1,h2⟩;rcases h with h|h
 ·exact h h1
 ·rw[h]at h2;cases h2
theorem MD {p:Pl->Bool} {d:Array Pl} {j i:Nat} (h0:1<=i) (h:i<=j) (hp:p d[j]! =true):Sort.scanDown p d i j=Sort.scanDown p d i (j-1):=by
 obtain⟨k,rfl⟩:∃k,j=k+1:=⟨j-1,by omega⟩;rw[Sort.scanDown,if_pos (by simp only[Bool.and_eq_true,decide_eq_true_eq];exact⟨h,hp⟩)];rfl
theorem CO {p:Pl->Bool} {d:Array Pl} {j i:Nat} (h:¬i<=j\/p d[j]! =false):Sort.scanDown p d i j=j:=by
 cases j with
 |zero=>rw[Sort.scanDown]
 |succ k=>
  rw[Sort.scanDown,if_neg];simp only[Bool.and_eq_true,decide_eq_true_eq];rintro⟨h1,h2⟩;rcases h with h|h
  ·exact h h1
  ·rw[h]at h2;cases h2
theorem Q0 {lt:Pl->Pl->Bool} {a i j i2 j2:Nat} {d:Array Pl} (h1:Sort.scanUp (fun x=> !lt d[a]! x) d j i=i2) (h2:Sort.scanDown (fun x=>lt d[a]! x) d i2 j=j2) (h:i2 > j2):Sort.partEqLoop lt a i j d=(i2,d):=by
 rw[Sort.partEqLoop];simp only[h1,h2];rw[if_pos h]
theorem XG {lt:Pl->Pl->Bool} {a i j i2 j2:Nat} {d:Array Pl} (h1:Sort.scanUp (fun x=> !lt d[a]! x) d j i=i2) (h2:Sort.scanDown (fun x=>lt d[a]! x) d i2 j=j2) (h:¬i2 > j2) (hi:i<=i2) (hj:j2<=j) (h0:1<=i2):Sort.partEqLoop lt a i j d=Sort.partEqLoop lt a (i2+1) (j2-1) (Sort.swp d i2 j2):=by
 rw[Sort.partEqLoop];simp only[h1,h2];rw[if_neg h,dif_pos (by omega)]
theorem Va (s:Sl) (d:Array Pl) (w:World) (h:SS s d w) (a b pv:Nat) (hab:a<b) (hb:b<=s.n) (hp:pv<s.n):
  Calls Tryz.prog 215 #[.agg #[(Value.func (.func 104) #[] #[.pointer (some ⟨s.Bs,0,none⟩)]),(Value.func (.func s.sf) #[] s.sb)],.int .i64 a,.int .i64 b,.int .i64 pv] w fun e w'=>
   e= .returned (.int .i64 (Sort.partitionEqual ltB d a b pv).1)/\SS s (Sort.partitionEqual ltB d a b pv).2 w'/\w.grownBy w' (some s.blk):=by
 have hn:=h.2.2.2.1.2.2.2;have HE:Hid (SE s w.heap.size w d (w.alloc (.cells #[(Value.func (.func 104) #[] #[.pointer (some ⟨s.Bs,0,none⟩)]),(Value.func (.func s.sf) #[] s.sb)] 242))):=SE.box h;clear h;obtain⟨R,hR⟩:∃R,Sort.partitionEqual ltB d a b pv=R:=⟨_,rfl⟩;have HR:Hid (Sort.partEqLoop ltB a (a+1) (b-1) (Sort.swp d a pv)=R):=hR;rw[hR];clear hR;go_enter Tryz.func215,Tryz.ntmps215
 go_wp2_with (fail)
 refine AL HE.out a pv (by omega) (by omega) (by omega) (by omega) ?_;intro w1 he1;rw[Oper.upon_value];have HE1:Hid _:=he1;clear he1 HE;go_wp2;go_loopw [9,10] (fun vi vj wr=>∃(i j:Nat) (dk:Array Pl),vi= .int .i64 i/\vj= .int .i64 j/\a+1<=i/\j<b/\i<=j+2/\Hid (SE s w.heap.size w dk wr/\Sort.partEqLoop ltB a i j dk=R)) (fun _ vj _=>(intOf vj).toNat)
 case atStart=>exact⟨a+1,b-1,_,by go_num,by congr 1;omega,by omega,by omega,by omega,HE1.out,HR.out⟩
 case round=>
  clear HE1 HR;obtain⟨i,j,dk,rfl,rfl,hai,hjb,hij,hz⟩:=hrel;go_wp2;go_loopw [9] (fun vi wr=>∃(i':Nat),vi= .int .i64 i'/\i<=i'/\i'<=j+2/\Hid (SE s w.heap.size w dk wr/\Sort.scanUp (fun x=> !ltB dk[a]! x) dk j i'=Sort.scanUp (fun x=> !ltB dk[a]! x) dk j i)) (fun vi _=>j+1-(intOf vi).toNat)
  case atStart=>exact⟨i,rfl,Nat.le_refl _,hij,hz.out.1,rfl⟩
  case round=>
   have HZ:Hid (Sort.partEqLoop ltB a i j dk=R):=hz.out.2;clear hz;obtain⟨i2,rfl,hi2,hi3,hy⟩:=hrel;obtain⟨c0,c1⟩:=hy.out.1.1;have HE:Hid _:=hy.out.1;have HU:Hid _:=hy.out.2;clear hy
   by_cases hc:i2<=j
   ·have q1:(i2:Int)<=(j:Int):=by omega
    obtain⟨lb,hlb⟩:∃lb,ltB dk[a]! dk[i2]! =lb:=⟨_,rfl⟩;have HL:Hid _:=hlb
    cases lb
    ·have HU2:Hid _:=(Tq (p:=fun x=> !ltB dk[a]! x) hc (by simp[hlb])).symm.trans HU.out
     clear HU hlb
     go_wp2_with (go_at_call 104;refine(Au HE.out (a) (i2) (by omega) (by omega) _ HL.out (by omega) (by omega)).mono ?_;rintro e w4 ⟨rfl,he4⟩;have k1:=he4.1.1;have k2:=he4.1.2;have HE:Hid _:=he4;clear he4)
     go_roundw
     case rel=>exact⟨i2+1,by go_num,by omega,by omega,HE.out,HU2.out⟩
     case measure=>simp[intOf];omega
    ·have HS:Hid (Sort.scanUp (fun x=> !ltB dk[a]! x) dk j i=i2):=by
      show _=_;rw[<-HU.out,Gt (.inr (by simp[hlb]))]
     clear HU hlb
     go_wp2_with (go_at_call 104;refine(Au HE.out (a) (i2) (by omega) (by omega) _ HL.out (by omega) (by omega)).mono ?_;rintro e w4 ⟨rfl,he4⟩;have k1:=he4.1.1;have k2:=he4.1.2;have HE:Hid _:=he4;clear he4)
     clear HL;go_loopw [10] (fun vj wr=>∃(j':Nat),vj= .int .i64 j'/\j'<=j/\Hid (SE s w.heap.size w dk wr/\Sort.scanDown (fun x=>ltB dk[a]! x) dk i2 j'=Sort.scanDown (fun x=>ltB dk[a]! x) dk i2 j)) (fun vj _=>(intOf vj).toNat)
     case atStart=>exact⟨j,rfl,Nat.le_refl _,HE.out,rfl⟩
     case round=>
      clear HE;obtain⟨j2,rfl,hj2,hy⟩:=hrel;obtain⟨c0,c1⟩:=hy.out.1.1;have HE:Hid _:=hy.out.1;have HD:Hid _:=hy.out.2;clear hy
      by_cases hc:i2<=j2
      ·have q1:(i2:Int)<=(j2:Int):=by omega
       have q2:¬(j2:Int)<(i2:Int):=by omega
       obtain⟨lb,hlb⟩:∃lb,ltB dk[a]! dk[j2]! =lb:=⟨_,rfl⟩;have HL:Hid _:=hlb
       cases lb
       ·have HX:Hid (Sort.partEqLoop ltB a (i2+1) (j2-1) (Sort.swp dk i2 j2)=R):=by
         have e2:Sort.scanDown (fun x=>ltB dk[a]! x) dk i2 j=j2:=by rw[<-HD.out,CO (.inr hlb)]
         show _=_;rw[<-HZ.out,XG HS.out e2 (by omega) (by omega) (by omega) (by omega)]
        clear HD hlb HS HZ
        go_wp2_with (go_at_call 104;refine(Au HE.out (a) (j2) (by omega) (by omega) _ HL.out (by omega) (by omega)).mono ?_;rintro e w4 ⟨rfl,he4⟩;have k1:=he4.1.1;have k2:=he4.1.2;have HE:Hid _:=he4;clear he4)
        refine AL HE.out i2 j2 (by omega) (by omega) (by omega) (by omega) ?_;intro w5 he5;rw[Oper.upon_value];have HE5:Hid _:=he5;clear he5;go_wp2;go_roundw
        case rel=>exact⟨i2+1,j2-1,_,by go_num,by congr 1;omega,by omega,by omega,by omega,HE5.out,HX.out⟩
        case measure=>simp[intOf];omega
       ·have HD2:Hid _:=(MD (p:=fun x=>ltB dk[a]! x) (by omega) hc hlb).symm.trans HD.out
        clear HD hlb
        go_wp2_with (go_at_call 104;refine(Au HE.out (a) (j2) (by omega) (by omega) _ HL.out (by omega) (by omega)).mono ?_;rintro e w4 ⟨rfl,he4⟩;have k1:=he4.1.1;have k2:=he4.1.2;have HE:Hid _:=he4;clear he4)
        go_roundw
        case rel=>exact⟨j2-1,by congr 1;omega,by omega,HE.out,HD2.out⟩
        case measure=>simp[intOf];omega
      ·have q1:¬(i2:Int)<=(j2:Int):=by omega
       have q2:(j2:Int)<(i2:Int):=by omega
       have HX:Hid ((i2,dk)=R):=by
        have e2:Sort.scanDown (fun x=>ltB dk[a]! x) dk i2 j=j2:=by rw[<-HD.out,CO (.inl hc)]
        show _=_;rw[<-HZ.out,Q0 HS.out e2 (by omega)]
       clear HD;go_wp2;go_ret;rw[<-HX.out];exact⟨rfl,HE.out.2.2.1,HE.out.2.2.2⟩
   ·have q1:¬(i2:Int)<=(j:Int):=by omega
    have HS:Hid (Sort.scanUp (fun x=> !ltB dk[a]! x) dk j i=i2):=by
     show _=_;rw[<-HU.out,Gt (.inl hc)]
    clear HU;go_wp2;go_loopw [10] (fun vj wr=>∃(j':Nat),vj= .int .i64 j'/\j'<=j/\Hid (SE s w.heap.size w dk wr/\Sort.scanDown (fun x=>ltB dk[a]! x) dk i2 j'=Sort.scanDown (fun x=>ltB dk[a]! x) dk i2 j)) (fun vj _=>(intOf vj).toNat)
    case atStart=>exact⟨j,rfl,Nat.le_refl _,HE.out,rfl⟩
    case round=>
     clear HE;obtain⟨j2,rfl,hj2,hy⟩:=hrel;obtain⟨c0,c1⟩:=hy.out.1.1;have HE:Hid _:=hy.out.1;have HD:Hid _:=hy.out.2;clear hy
     by_cases hc:i2<=j2
     ·exact absurd hc (by omega)
     ·have q1:¬(i2:Int)<=(j2:Int):=by omega
      have q2:(j2:Int)<(i2:Int):=by omega
      have HX:Hid ((i2,dk)=R):=by
       have e2:Sort.scanDown (fun x=>ltB dk[a]! x) dk i2 j=j2:=by rw[<-HD.out,CO (.inl hc)]
       show _=_;rw[<-HZ.out,Q0 HS.out e2 (by omega)]
      clear HD;go_wp2;go_ret;rw[<-HX.out];exact⟨rfl,HE.out.2.2.1,HE.out.2.2.2⟩
end
end Go.Proofs.YtgfldnaahojnlaaGreatDoor
