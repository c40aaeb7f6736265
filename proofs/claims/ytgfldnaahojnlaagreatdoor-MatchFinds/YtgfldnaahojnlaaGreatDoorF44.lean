/- MatchFinds: part 44. -/
import Derived.Test.YtgfldnaahojnlaaGreatDoorF25
import Derived.Shelf.SlSortFuncK.WholeK
set_option maxRecDepth 100000
set_option maxHeartbeats 4000000
namespace Go.Proofs.YtgfldnaahojnlaaGreatDoor
section
open Go.RowKit
instance:Inhabited Pl:=⟨⟨0,0⟩⟩
def A9 (p:Pl):List Value:=[.int .i64 p.r,.int .i64 p.a]
theorem FG (p:Pl):(A9 p).length=2:=rfl
def ltB (p q:Pl):Bool:=decide (BO p q<0)
structure Sl where
 blk:Nat
 off:Nat
 c:Nat
 Bs:Nat
 n:Nat
 sf:Nat
 sb:Array Value
def SS (s:Sl) (d:Array Pl) (w:World):Prop:=
 Sort.HoldsK A9 2 w s.blk s.off d/\d.size=s.n/\w.cell? ⟨s.Bs,0,none⟩=some (.slice (some ⟨s.blk,s.off,none⟩) s.n s.c)/\(s.Bs≠s.blk/\s.blk<w.heap.size/\s.Bs<w.heap.size/\s.n<1000000)/\SwapSwapsK Tryz.prog s.sf s.sb A9 2 s.blk s.off s.n
theorem EY {w w':World} {blk off:Nat} {d:Array Pl} (h:Sort.HoldsK A9 2 w blk off d) (hb:w'.heap[blk]? =w.heap[blk]?):Sort.HoldsK A9 2 w' blk off d:=by
 intro j hj;obtain⟨h1,h2⟩:=h j hj;exact⟨by rw[World.cell?_of_block (w:=w) (a:=⟨blk,off+j,none⟩) hb];exact h1,by rw[World.frozen?_of_block (w:=w) (a:=⟨blk,off+j,none⟩) hb];exact h2⟩
theorem SS.below {s:Sl} {d:Array Pl} {w w':World} (h:SS s d w) (hb:Below w.heap.size w w'):SS s d w':=by
 obtain⟨h1,h2,h3,⟨h4,h5,h6,h7⟩,h8⟩:=h;have:=hb.size;exact⟨EY h1 (hb.block _ h5),h2,by rw[hb.cell (p:=⟨s.Bs,_,none⟩) h6];exact h3,⟨h4,by omega,by omega,h7⟩,h8⟩
theorem SS.grown {s:Sl} {d d':Array Pl} {w w':World} (h:SS s d w) (hg:w.grownBy w' (some s.blk)) (hd:Sort.HoldsK A9 2 w' s.blk s.off d') (hs:d'.size=d.size):SS s d' w':=by
 obtain⟨h1,h2,h3,⟨h4,h5,h6,h7⟩,h8⟩:=h;have:=hg.size;exact⟨hd,by omega,hg.cell h3 (by simpa using h4),⟨h4,by omega,by omega,h7⟩,h8⟩
theorem II (w:World) (blk off:Nat) (d:Array Pl) (n:Nat) (os:Array Obj):w.grownBy (Sort.grow (Sort.putRowK A9 2 (Sort.ahead w n) blk off d) os) (some blk):=by
 refine⟨rfl,rfl,rfl,?_,fun k hk hne=> ?_⟩
 ·simp[Sort.grow,Sort.putRowK,Sort.putRow,Sort.mapBlock,Sort.ahead]
 ·simp only[Sort.grow,Sort.putRowK,Sort.putRow,Sort.mapBlock,Sort.ahead]
  rw[Array.getElem?_append_left (by simpa using hk),Array.getElem?_modify,if_neg (fun e=>hne (by rw[e]))]
theorem SS.swapped {s:Sl} {d:Array Pl} {w:World} (h:SS s d w) (i j:Nat) (hi:i<s.n) (hj:j<s.n):
  SS s (Sort.swp d i j) ((w.setCells s.blk (s.off+i * 2) (A9 d[j]!)).setCells s.blk (s.off+j * 2) (A9 d[i]!))/\w.grownBy ((w.setCells s.blk (s.off+i * 2) (A9 d[j]!)).setCells s.blk (s.off+j * 2) (A9 d[i]!)) (some s.blk):=by
 have e:=Sort.swap_worldK A9 2 FG w 0 0 s.blk s.off d i j (by rw[h.2.1];exact hi) (by rw[h.2.1];exact hj);rw[show(Sort.putRowK A9 2 (Sort.ahead w 0) s.blk s.off d).drewN 0=w from Sort.putRowK_self A9 2 w s.blk s.off d h.1]at e;have e2:Sort.putRowK A9 2 (Sort.ahead w (0+0)) s.blk s.off (Sort.swp d i j)=Sort.grow (Sort.putRowK A9 2 (Sort.ahead w (0+0)) s.blk s.off (Sort.swp d i j)) #[]:=by rw[Sort.grow_empty]
 have hg:w.grownBy ((w.setCells s.blk (s.off+i * 2) (A9 d[j]!)).setCells s.blk (s.off+j * 2) (A9 d[i]!)) (some s.blk):=by
  rw[e,e2];exact II _ _ _ _ _ _
 refine⟨SS.grown h hg ?_ (Sort.size_swp _ _ _),hg⟩;rw[e];exact Sort.holdsK_putRowK A9 2 _ s.blk s.off d _ (Sort.holdsK_ahead _ _ _ _ _ _ _ h.1) (Sort.size_swp _ _ _)
def LE (blk off c Bs n i j:Nat) (p q:Pl) (w w':World):Prop:=
 (w'.cell? ⟨Bs,0,none⟩=some (.slice (some ⟨blk,off,none⟩) n c)/\w'.cell? ⟨blk,off+i * 2,none⟩=some (.int .i64 p.r)/\w'.cell? ⟨blk,off+i * 2+1,none⟩=some (.int .i64 p.a)/\w'.cell? ⟨blk,off+j * 2,none⟩=some (.int .i64 q.r)/\w'.cell? ⟨blk,off+j * 2+1,none⟩=some (.int .i64 q.a))/\(blk<w.heap.size/\Bs<w.heap.size)/\Below w.heap.size w w'
theorem LE.step {blk off c Bs n i j:Nat} {p q:Pl} {w a b:World} (h:LE blk off c Bs n i j p q w a) (hb:Below a.heap.size a b):LE blk off c Bs n i j p q w b:=by
 obtain⟨⟨x1,x2,x3,x4,x5⟩,⟨y1,y2⟩,x6⟩:=h;have:=x6.size;refine⟨⟨?_,?_,?_,?_,?_⟩,⟨y1,y2⟩,x6.trans (hb.mono this)⟩
 ·rw[hb.cell (p:=⟨Bs,_,none⟩) (by show Bs<_;omega)];exact x1
 ·rw[hb.cell (p:=⟨blk,_,none⟩) (by show blk<_;omega)];exact x2
 ·rw[hb.cell (p:=⟨blk,_,none⟩) (by show blk<_;omega)];exact x3
 ·rw[hb.cell (p:=⟨blk,_,none⟩) (by show blk<_;omega)];exact x4
 ·rw[hb.cell (p:=⟨blk,_,none⟩) (by show blk<_;omega)];exact x5
theorem LE.drew {blk off c Bs n i j:Nat} {p q:Pl} {w a:World} (h:LE blk off c Bs n i j p q w a):LE blk off c Bs n i j p q w a.drew:=h.step (Below.refl _ _).drew
set_option maxHeartbeats 1000000
theorem Q8 (s:Sl) (d:Array Pl) (w:World) (h:SS s d w) (i j:Nat) (hi:i<s.n) (hj:j<s.n):
  Calls Tryz.prog 104 #[.int .i64 i,.int .i64 j,.pointer (some ⟨s.Bs,0,none⟩)] w fun e w'=>e= .returned (.bool (ltB d[i]! d[j]!))/\Below w.heap.size w w':=by
 obtain⟨h1,h2,h3,⟨h4,h5,h6,h7⟩,h8⟩:=h;have c1:=(h1.cell (i:=i) (c:=0) (by omega) (by omega)).1;have c2:=(h1.cell (i:=i) (c:=1) (by omega) (by omega)).1;have c3:=(h1.cell (i:=j) (c:=0) (by omega) (by omega)).1;have c4:=(h1.cell (i:=j) (c:=1) (by omega) (by omega)).1;generalize d[i]! =p at *;generalize d[j]! =q at *;rw[Nat.add_zero]at c1 c3;have k1:w.cell? ⟨s.blk,s.off+i * 2,none⟩=some (.int .i64 p.r):=c1;have k2:w.cell? ⟨s.blk,s.off+i * 2+1,none⟩=some (.int .i64 p.a):=c2;have k3:w.cell? ⟨s.blk,s.off+j * 2,none⟩=some (.int .i64 q.r):=c3;have k4:w.cell? ⟨s.blk,s.off+j * 2+1,none⟩=some (.int .i64 q.a):=c4;clear c1 c2 c3 c4 h1 h8;obtain⟨lb,hlb⟩:∃lb,decide (BO p q<0)=lb:=⟨_,rfl⟩;have HL:Hid (decide (BO p q<0)=lb):=hlb;rw[ltB,hlb];clear hlb;obtain⟨blk,off,c,Bs,n,sf,sb⟩:=s;simp only at *;have i1:(i:Int)<(n:Int):=by omega
 have i2:(j:Int)<(n:Int):=by omega
 have HF:Hid (LE blk off c Bs n i j p q w w):=⟨⟨h3,k1,k2,k3,k4⟩,⟨h5,h6⟩,Below.refl _ _⟩;clear h3 k1 k2 k3 k4;go_enter Tryz.func104,Tryz.ntmps104;go_wp2_with fail;have HF:Hid _:=LE.drew HF.out
 go_region_held3 (fun w'=>w'.cell? ⟨Bs,0,none⟩=some (.slice (some ⟨blk,off,none⟩) n c)/\w'.cell? ⟨blk,off+i * 2,none⟩=some (.int .i64 p.r)/\w'.cell? ⟨blk,off+i * 2+1,none⟩=some (.int .i64 p.a)/\w'.cell? ⟨blk,off+j * 2,none⟩=some (.int .i64 q.r)/\w'.cell? ⟨blk,off+j * 2+1,none⟩=some (.int .i64 q.a)) (exact HF.out.1)
  ((go_at_call 105;refine Calls.mono (Te lb p q HL.out _) ?_;rintro _ w2 ⟨rfl,hb2⟩;have HF:Hid _:=LE.step HF.out hb2;clear hb2))
 go_wp2;go_ret;exact⟨rfl,HF.out.2.2⟩
def SE (s:Sl) (B:Nat) (w:World) (d:Array Pl) (wx:World):Prop:=
 (wx.cell? ⟨B,0,none⟩=some (Value.func (.func 104) #[] #[.pointer (some ⟨s.Bs,0,none⟩)])/\wx.cell? ⟨B,1,none⟩=some (Value.func (.func s.sf) #[] s.sb))/\(B<wx.heap.size/\B≠s.blk)/\SS s d wx/\w.grownBy wx (some s.blk)
theorem SE.step {s:Sl} {B:Nat} {w:World} {d:Array Pl} {wx wy:World} (h:SE s B w d wx) (hb:Below wx.heap.size wx wy):SE s B w d wy:=by
 obtain⟨⟨h1,h2⟩,⟨h3,h4⟩,h5,h6⟩:=h;have:=hb.size;exact⟨⟨by rw[hb.cell (p:=⟨B,_,none⟩) h3];exact h1,by rw[hb.cell (p:=⟨B,_,none⟩) h3];exact h2⟩,⟨by omega,h4⟩,h5.below hb,h6.trans (Aq hb _)⟩
theorem SE.grown {s:Sl} {B:Nat} {w:World} {d d':Array Pl} {wx wy:World} (h:SE s B w d wx) (hg:wx.grownBy wy (some s.blk)) (hs:SS s d' wy):SE s B w d' wy:=by
 obtain⟨⟨h1,h2⟩,⟨h3,h4⟩,h5,h6⟩:=h;have:=hg.size;exact⟨⟨hg.cell h1 (by simpa using h4),hg.cell h2 (by simpa using h4)⟩,⟨by omega,h4⟩,hs,h6.trans hg⟩
theorem SE.swapped {s:Sl} {B:Nat} {w:World} {d:Array Pl} {wx:World} (h:SE s B w d wx) (i j:Nat) (hi:i<s.n) (hj:j<s.n):SE s B w (Sort.swp d i j) ((wx.setCells s.blk (s.off+i * 2) (A9 d[j]!)).setCells s.blk (s.off+j * 2) (A9 d[i]!)):=
 h.grown (h.2.2.1.swapped i j hi hj).2 (h.2.2.1.swapped i j hi hj).1
theorem SE.box {s:Sl} {d:Array Pl} {w:World} (h:SS s d w):SE s w.heap.size w d (w.alloc (.cells #[(Value.func (.func 104) #[] #[.pointer (some ⟨s.Bs,0,none⟩)]),(Value.func (.func s.sf) #[] s.sb)] 242)):=by
 have hb:Below w.heap.size w (w.alloc (.cells #[(Value.func (.func 104) #[] #[.pointer (some ⟨s.Bs,0,none⟩)]),(Value.func (.func s.sf) #[] s.sb)] 242)):=(Below.refl _ _).alloc (Nat.le_refl _) _;refine⟨⟨by simp,by simp⟩,⟨by simp,?_⟩,h.below hb,Aq hb _⟩;have:=h.2.2.2.1.2.1;omega
theorem Q9 (s:Sl) (B:Nat) (w:World) (d:Array Pl) (wx:World) (h:SE s B w d wx) (i j:Nat) (hi:i<s.n) (hj:j<s.n) (b:Bool) (hb:ltB d[i]! d[j]! =b):
  Calls Tryz.prog 104 #[.int .i64 i,.int .i64 j,.pointer (some ⟨s.Bs,0,none⟩)] wx fun e w'=>e= .returned (.bool b)/\SE s B w d w':=
 (Q8 s d wx h.2.2.1 i j hi hj).mono fun _ _ ⟨he,hb'⟩=>⟨by rw[he,hb],h.step hb'⟩
theorem Ql {s:Sl} {B:Nat} {w:World} {d:Array Pl} {wx:World} (h:SE s B w d wx) (i j:Nat) (hi:i<s.n) (hj:j<s.n):
  ∃wy,(callFunc s.sf (#[.int .i64 i,.int .i64 j]++s.sb)).run Tryz.prog wx= .ok (.value (.tuple #[])) wy/\SE s B w (Sort.swp d i j) wy:=
 ⟨_,h.2.2.1.2.2.2.2 wx d h.2.2.1.1 h.2.2.1.2.1 i j hi hj,h.swapped i j hi hj⟩
set_option maxHeartbeats 2000000
theorem M8 (s:Sl) (d:Array Pl) (w:World) (h:SS s d w) (a b:Nat) (hab:a<=b) (hb:b<=s.n):
  Calls Tryz.prog 209 #[.agg #[(Value.func (.func 104) #[] #[.pointer (some ⟨s.Bs,0,none⟩)]),(Value.func (.func s.sf) #[] s.sb)],.int .i64 a,.int .i64 b] w fun e w'=>e= .returned (.tuple #[])/\SS s (Sort.insertionSort ltB d a b) w'/\w.grownBy w' (some s.blk):=by
 have hn:=h.2.2.2.1.2.2.2;have HE:Hid (SE s w.heap.size w d (w.alloc (.cells #[(Value.func (.func 104) #[] #[.pointer (some ⟨s.Bs,0,none⟩)]),(Value.func (.func s.sf) #[] s.sb)] 242))):=SE.box h;clear h;go_enter Tryz.func209,Tryz.ntmps209;go_wp2;go_loopw [6] (fun vi wr=>∃(i:Nat) (dk:Array Pl),vi= .int .i64 i/\a<i/\i<=b+1/\Hid (SE s w.heap.size w dk wr/\Sort.insOuter ltB a b i dk=Sort.insertionSort ltB d a b)) (fun vi _=>b+1-(intOf vi).toNat)
 case atStart=>exact⟨a+1,d,by go_num,by omega,by omega,HE.out,rfl⟩
 case round=>
  clear HE;obtain⟨i,dk,rfl,hai,hib,hz⟩:=hrel
  by_cases hlt:i<b
  ·have i1:(i:Int)<(b:Int):=by omega
   go_wp2;go_loopw [7] (fun vj wr2=>∃(j:Nat) (dj:Array Pl),vj= .int .i64 j/\a<=j/\j<=i/\Hid (SE s w.heap.size w dj wr2/\Sort.insInner ltB a j dj=Sort.insInner ltB a i dk)) (fun vj _=>(intOf vj).toNat)
   case atStart=>exact⟨i,dk,rfl,by omega,Nat.le_refl _,hz.out.1,rfl⟩
   case round=>
    obtain⟨j,dj,rfl,haj,hji,hy⟩:=hrel;have HZ:Hid (Sort.insOuter ltB a b i dk=Sort.insertionSort ltB d a b):=hz.out.2;clear hz
    have HO:Hid ((j<=a\/ltB dj[j]! dj[j-1]! =false)->Sort.insOuter ltB a b (i+1) dj=Sort.insertionSort ltB d a b):=fun hs=>by
     rw[<-HZ.out,insOuter_go _ _ _ _ _ hlt,<-hy.out.2,insInner_stop _ _ _ _ hs]
    obtain⟨⟨c0,c1⟩,_⟩:=hy.out.1
    by_cases hja:a<j
    ·have j1:(a:Int)<(j:Int):=by omega
     obtain⟨lb,hlb⟩:∃lb,ltB dj[j]! dj[j-1]! =lb:=⟨_,rfl⟩;have hl:=Q9 s w.heap.size w dj _ hy.out.1 j (j-1) (by omega) (by omega) lb hlb;rw[show(((j-1:Nat):Int))=(j:Int)-1 by omega]at hl
     cases lb
     ·have HO:Hid _:=HO.out (.inr hlb)
      clear hlb hy
      go_wp2_with (go_at_call 104;refine hl.mono ?_;rintro e w1 ⟨rfl,he1⟩;have k1:=he1.1.2)
      go_roundw
      case rel=>exact⟨i+1,dj,by go_num,by omega,by omega,he1,HO.out⟩
      case measure=>simp[intOf];omega
     ·have HI:Hid (Sort.insInner ltB a (j-1) (Sort.swp dj j (j-1))=Sort.insInner ltB a i dk):=by
       show _=_;rw[<-hy.out.2,insInner_go ltB a j dj hja hlb]
      clear hlb hy HO
      go_wp2_with (go_at_call 104;refine hl.mono ?_;rintro e w1 ⟨rfl,he1⟩;have k1:=he1.1.2)
      obtain⟨w2,hs,he2⟩:=Ql he1 j (j-1) (by omega) (by omega);rw[show(((j-1:Nat):Int))=(j:Int)-1 by omega]at hs;rw[hs,Oper.upon_value];have HE2:Hid _:=he2;clear he1 he2 hs;go_wp2;go_roundw
      case rel=>
       exact⟨j-1,Sort.swp dj j (j-1),by congr 1;omega,by omega,by omega,HE2.out,HI.out⟩
      case measure=>simp[intOf];omega
    ·have j1:¬(a:Int)<(j:Int):=by omega
     have HO:Hid _:=HO.out (.inl (by omega));go_wp2;go_roundw
     case rel=>exact⟨i+1,dj,by go_num,by omega,by omega,hy.out.1,HO.out⟩
     case measure=>simp[intOf];omega
  ·have i1:¬(i:Int)<(b:Int):=by omega
   go_wp2;go_end0;refine⟨rfl,?_,hz.out.1.2.2.2⟩;rw[<-hz.out.2,insOuter_stop _ _ _ _ _ hlt];exact hz.out.1.2.2.1
end
end Go.Proofs.YtgfldnaahojnlaaGreatDoor
