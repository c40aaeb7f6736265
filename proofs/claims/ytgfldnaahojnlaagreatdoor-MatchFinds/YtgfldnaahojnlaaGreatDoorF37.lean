/- MatchFinds: part 37. -/
import Derived.Test.YtgfldnaahojnlaaGreatDoorF36
set_option maxRecDepth 100000
set_option maxHeartbeats 4000000
namespace Go.Proofs.YtgfldnaahojnlaaGreatDoor
section
open Go.RowKit
theorem UH {A:Nat} {w0 w:World} {s:Rst} (ha:Av A s w) (hg:w0.grownBy w (some A)) (k:Int) (x y:ByteArray):
  RE A w0 (some ⟨w.heap.size+1,0,none⟩) (.node k [x,y] .nil .nil) s ((w.alloc (.cells #[.string x,.string y] 9)).alloc (.cells #[.int .i64 k,.slice (some ⟨w.heap.size,0,none⟩) 2 2,.pointer none,.pointer none] 90)):=by
 have h5:RE A w0 none .nil s (w.alloc (.cells #[.string x,.string y] 9)):=⟨rfl,ha.below ((Below.refl _ _).alloc (Nat.le_refl _) _),hg.trans (Ac ((Below.refl _ _).alloc (Nat.le_refl _) _) _)⟩;have h6:=Ie h5 k _ _ _ [x,y] (Qu x y ha.2.2.2.2.1);rw[show(w.alloc (.cells #[.string x,.string y] 9)).heap.size=w.heap.size+1 by simp]at h6;exact h6
def Fw (A B:Nat) (y:ByteArray) (w0:World) (s:Rst) (wx:World):Prop:=(wx.cell? ⟨B+1,1,none⟩=some (.slice (some ⟨B,0,none⟩) 1 1)/\wx.cell? ⟨B,0,none⟩=some (.string y))/\(A<B/\B+1<wx.heap.size)/\Av A s wx/\w0.grownBy wx (some A)
theorem Fw.to {A B:Nat} {y:ByteArray} {w0:World} {s s':Rst} {wx wy:World} (h:Fw A B y w0 s wx) (ha:Av A s' wy) (hg:wx.grownBy wy (some A)):Fw A B y w0 s' wy:=by
 obtain⟨⟨h1,h2⟩,⟨h3,h4⟩,_,h6⟩:=h;have hs:=hg.size;refine⟨⟨?_,?_⟩,⟨h3,by omega⟩,ha,h6.trans hg⟩
 ·rw[World.cell?_of_block (w:=wx) (a:=⟨B+1,1,none⟩) (hg.block (B+1) h4 (fun e=>by cases e;omega))];exact h1
 ·rw[World.cell?_of_block (w:=wx) (a:=⟨B,0,none⟩) (hg.block B (by omega) (fun e=>by cases e;omega))];exact h2
theorem Fw.one {A B:Nat} {y:ByteArray} {w0:World} {s:Rst} {wx:World} (h:Fw A B y w0 s wx) (o:Obj):(wx.alloc o).cell? ⟨B+1,1,none⟩=some (.slice (some ⟨B,0,none⟩) 1 1)/\(wx.alloc o).cell? ⟨B,0,none⟩=some (.string y):=
 (h.to (h.2.2.1.below ((Below.refl _ _).alloc (Nat.le_refl _) _)) (Ac ((Below.refl _ _).alloc (Nat.le_refl _) _) _)).1
theorem Fw.two {A B:Nat} {y:ByteArray} {w0:World} {s:Rst} {wx:World} (h:Fw A B y w0 s wx) (o o':Obj):((wx.alloc o).alloc o').cell? ⟨B+1,1,none⟩=some (.slice (some ⟨B,0,none⟩) 1 1)/\((wx.alloc o).alloc o').cell? ⟨B,0,none⟩=some (.string y):=
 (h.to (h.2.2.1.below (((Below.refl _ _).alloc (Nat.le_refl _) _).alloc (by simp) _)) (Ac (((Below.refl _ _).alloc (Nat.le_refl _) _).alloc (by simp) _) _)).1
theorem Fw.drew {A B:Nat} {y:ByteArray} {w0:World} {s:Rst} {wx:World} (h:Fw A B y w0 s wx):Fw A B y w0 s wx.drew:=h.to (h.2.2.1.below (Below.refl _ _).drew) (Ac (Below.refl _ _).drew _)
theorem Fw.new {A:Nat} {y:ByteArray} {w0 w:World} {s:Rst} (ha:Av A s w) (hg:w0.grownBy w (some A)) (k:Int):Fw A w.heap.size y w0 s ((w.alloc (.cells #[.string y] 9)).alloc (.cells #[.int .i64 k,.slice (some ⟨w.heap.size,0,none⟩) 1 1,.pointer none,.pointer none] 90)):=by
 have hb:Below w.heap.size w ((w.alloc (.cells #[.string y] 9)).alloc (.cells #[.int .i64 k,.slice (some ⟨w.heap.size,0,none⟩) 1 1,.pointer none,.pointer none] 90)):=((Below.refl _ _).alloc (Nat.le_refl _) _).alloc (by simp) _;refine⟨⟨?_,?_⟩,⟨ha.2.2.2.2.1,by simp⟩,ha.below hb,hg.trans (Ac hb _)⟩
 ·have h1:=heap_alloc_new (w.alloc (.cells #[.string y] 9)) (.cells #[.int .i64 k,.slice (some ⟨w.heap.size,0,none⟩) 1 1,.pointer none,.pointer none] 90)
  rw[show(w.alloc (.cells #[.string y] 9)).heap.size=w.heap.size+1 by simp]at h1;simp only[World.cell?,h1];simp
 ·rw[World.cell?_alloc_lt _ _ _ (by simp)];simp
theorem Sc (A:Nat) (d:Int) (s:Rst) (t:ByteArray) (w:World) (s1:Rst) (h:Run A d s t w s1) (hno:(s1.plain t).2.peek=At) (s3:Rst) (h3:(⟨(s1.plain t).2.l.tail,(s1.plain t).2.bad⟩:Rst)=s3) (t2:ByteArray) (ht2:s3.peek=t2) (hb:t2=Ax):GR A d w (.node 1 [(s1.plain t).1] .nil .nil,s3.fails 3):=by
 show Calls _ _ _ _ _;obtain⟨ha,hd,ht,hne,d0,d1,d2,d3,d4,d5,d6,d7,hpos,hf,hsz,hnx,hst⟩:=h;have H:Hid (Av A s w):=ha;have HE:Hid _:=Ds ha;have HP:Hid (s.peek=t/\t≠Ax/\(⟨s.l.tail,s.bad⟩:Rst)=s1/\s1.peek≠Ao):=⟨ht,hne,hnx,hst⟩;obtain⟨x0,hx0⟩:∃x,(t[0]).toNat=x:=⟨_,rfl⟩;rw[hx0]at hf;have hx34:((x0:Int) == 34)=false:=by simpa using hf
 have hi0:(0:Int)<(t.size:Int):=by omega
 clear ha ht hne hnx hst hf;obtain⟨y,hy⟩:∃y,(s1.plain t).1=y:=⟨_,rfl⟩;obtain⟨s2,hs2⟩:∃y,(s1.plain t).2=y:=⟨_,rfl⟩;have HY:Hid ((s1.plain t).1=y/\(s1.plain t).2=s2):=⟨hy,hs2⟩;rw[hs2]at hno h3;rw[hy];have HNo:Hid (s2.peek=At/\(⟨s2.l.tail,s2.bad⟩:Rst)=s3/\s3.peek=t2):=⟨hno,h3,ht2⟩;have e2:(t2.toList == [])=true:=by rw[Ff,hb];decide
 clear hno h3 ht2 hb;clear hy hs2;go_enter Tryz.func71,Tryz.ntmps71;go_wp2_with fail;refine(Cd t A s w H.out HP.out.1).mono ?_;rintro _ w1 ⟨rfl,hw1⟩;subst hw1;go_wp2_with fail;refine(AK A s t _ HE.out.2.1 HP.out.1 HP.out.2.1).mono ?_;rintro _ w2 ⟨rfl,ha2,hg2⟩;rw[HP.out.2.2.1]at ha2;have HE2:Hid _:=RE.to HE.out ha2 hg2;clear ha2 hg2 HE H;go_wp2_with fail;refine(Cr A s1 Ao _ HE2.out.2.1 HP.out.2.2.2).mono ?_;rintro _ w3 ⟨rfl,hw3⟩;subst hw3;go_wp2_with fail;refine(Fk A s1 t _ HE2.out.2.1 hsz).mono ?_;rintro _ w4 ⟨rfl,ha4,hg4⟩;rw[HY.out.2]at ha4;rw[HY.out.1];have HE5:Hid _:=Ic ha4 (HE2.out.2.2.trans hg4) 1 y;clear ha4 hg4 HE2;go_wp2_with fail;refine(AK A s2 At _ HE5.out.2.1 HNo.out.1 (by decide)).mono ?_;rintro _ w6 ⟨rfl,ha6,hg6⟩;rw[HNo.out.2.1]at ha6;have HE6:Hid _:=RE.to HE5.out ha6 hg6;clear ha6 hg6 HE5;go_wp2_with fail;refine(Cd t2 A s3 _ HE6.out.2.1 HNo.out.2.2).mono ?_;rintro _ w7 ⟨rfl,hw7⟩;subst hw7;go_wp2_with fail;refine(CN A s3 3 _ HE6.out.2.1).mono ?_;rintro _ w8 ⟨rfl,ha8,hg8⟩;have HE8:Hid _:=RE.to HE6.out ha8 hg8;clear ha8 hg8 HE6;go_wp2;go_ret;exact⟨_,rfl,HE8.out.1,HE8.out.2.1,HE8.out.2.2⟩
theorem Sb (A:Nat) (d:Int) (s:Rst) (t:ByteArray) (w:World) (s1:Rst) (h:Run A d s t w s1) (hno:(s1.plain t).2.peek=At) (s3:Rst) (h3:(⟨(s1.plain t).2.l.tail,(s1.plain t).2.bad⟩:Rst)=s3) (t2:ByteArray) (ht2:s3.peek=t2) (hb:t2≠Ax) (hs:Dd (BA t2)=true):GR A d w (.node 1 [(s1.plain t).1] .nil .nil,s3.fails 3):=by
 show Calls _ _ _ _ _;obtain⟨ha,hd,ht,hne,d0,d1,d2,d3,d4,d5,d6,d7,hpos,hf,hsz,hnx,hst⟩:=h;have H:Hid (Av A s w):=ha;have HE:Hid _:=Ds ha;have HP:Hid (s.peek=t/\t≠Ax/\(⟨s.l.tail,s.bad⟩:Rst)=s1/\s1.peek≠Ao):=⟨ht,hne,hnx,hst⟩;obtain⟨x0,hx0⟩:∃x,(t[0]).toNat=x:=⟨_,rfl⟩;rw[hx0]at hf;have hx34:((x0:Int) == 34)=false:=by simpa using hf
 have hi0:(0:Int)<(t.size:Int):=by omega
 clear ha ht hne hnx hst hf;obtain⟨y,hy⟩:∃y,(s1.plain t).1=y:=⟨_,rfl⟩;obtain⟨s2,hs2⟩:∃y,(s1.plain t).2=y:=⟨_,rfl⟩;have HY:Hid ((s1.plain t).1=y/\(s1.plain t).2=s2):=⟨hy,hs2⟩;rw[hs2]at hno h3;rw[hy];have e2:(t2.toList == [])=false:=by rw[Ff,decide_eq_false_iff_not];exact hb
 obtain⟨hpos2,hf2⟩:=Gg hb;obtain⟨x2,hx2⟩:∃x,(t2[0]).toNat=x:=⟨_,rfl⟩;have hi2:(0:Int)<(t2.size:Int):=by omega
 have HIx:Hid (x2<256/\Dd x2.toUInt8=true):=⟨by rw[<-hx2];exact UInt8.toNat_lt _,by rw[<-hx2,<-hs,hf2];simp⟩;have HNo:Hid (s2.peek=At/\(⟨s2.l.tail,s2.bad⟩:Rst)=s3/\s3.peek=t2):=⟨hno,h3,ht2⟩;clear hno h3 ht2 hb hs hf2;clear hy hs2;go_enter Tryz.func71,Tryz.ntmps71;go_wp2_with fail;refine(Cd t A s w H.out HP.out.1).mono ?_;rintro _ w1 ⟨rfl,hw1⟩;subst hw1;go_wp2_with fail;refine(AK A s t _ HE.out.2.1 HP.out.1 HP.out.2.1).mono ?_;rintro _ w2 ⟨rfl,ha2,hg2⟩;rw[HP.out.2.2.1]at ha2;have HE2:Hid _:=RE.to HE.out ha2 hg2;clear ha2 hg2 HE H;go_wp2_with fail;refine(Cr A s1 Ao _ HE2.out.2.1 HP.out.2.2.2).mono ?_;rintro _ w3 ⟨rfl,hw3⟩;subst hw3;go_wp2_with fail;refine(Fk A s1 t _ HE2.out.2.1 hsz).mono ?_;rintro _ w4 ⟨rfl,ha4,hg4⟩;rw[HY.out.2]at ha4;rw[HY.out.1];have HE5:Hid _:=Ic ha4 (HE2.out.2.2.trans hg4) 1 y;clear ha4 hg4 HE2;go_wp2_with fail;refine(AK A s2 At _ HE5.out.2.1 HNo.out.1 (by decide)).mono ?_;rintro _ w6 ⟨rfl,ha6,hg6⟩;rw[HNo.out.2.1]at ha6;have HE6:Hid _:=RE.to HE5.out ha6 hg6;clear ha6 hg6 HE5;go_wp2_with fail;refine(Cd t2 A s3 _ HE6.out.2.1 HNo.out.2.2).mono ?_;rintro _ w7 ⟨rfl,hw7⟩;subst hw7;go_wp2_with fail;refine(UM x2 HIx.out.1 _ HIx.out.2 _).mono ?_;rintro _ w8 ⟨n8,rfl,hn8,hw8⟩;subst hw8;go_wp2_with fail;refine(CN A s3 3 _ HE6.out.2.1).mono ?_;rintro _ w9 ⟨rfl,ha9,hg9⟩;have HE9:Hid _:=RE.to HE6.out ha9 hg9;clear ha9 hg9 HE6;go_wp2;go_ret;exact⟨_,rfl,HE9.out.1,HE9.out.2.1,HE9.out.2.2⟩
theorem U0 (A:Nat) (d:Int) (s:Rst) (t:ByteArray) (w:World) (s1:Rst) (h:Run A d s t w s1) (hno:(s1.plain t).2.peek=At) (s3:Rst) (h3:(⟨(s1.plain t).2.l.tail,(s1.plain t).2.bad⟩:Rst)=s3) (t2:ByteArray) (ht2:s3.peek=t2) (hb:t2≠Ax) (hs:Dd (BA t2)=false) (s4:Rst) (h4:(⟨s3.l.tail,s3.bad⟩:Rst)=s4):GR A d w (.node 3 [(s1.plain t).1,(s4.plain t2).1] .nil .nil,(s4.plain t2).2):=by
 show Calls _ _ _ _ _;obtain⟨ha,hd,ht,hne,d0,d1,d2,d3,d4,d5,d6,d7,hpos,hf,hsz,hnx,hst⟩:=h;have H:Hid (Av A s w):=ha;have HE:Hid _:=Ds ha;have HP:Hid (s.peek=t/\t≠Ax/\(⟨s.l.tail,s.bad⟩:Rst)=s1/\s1.peek≠Ao):=⟨ht,hne,hnx,hst⟩;obtain⟨x0,hx0⟩:∃x,(t[0]).toNat=x:=⟨_,rfl⟩;rw[hx0]at hf;have hx34:((x0:Int) == 34)=false:=by simpa using hf
 have hi0:(0:Int)<(t.size:Int):=by omega
 clear ha ht hne hnx hst hf;obtain⟨y,hy⟩:∃y,(s1.plain t).1=y:=⟨_,rfl⟩;obtain⟨s2,hs2⟩:∃y,(s1.plain t).2=y:=⟨_,rfl⟩;have HY:Hid ((s1.plain t).1=y/\(s1.plain t).2=s2):=⟨hy,hs2⟩;rw[hs2]at hno h3;rw[hy];have e2:(t2.toList == [])=false:=by rw[Ff,decide_eq_false_iff_not];exact hb
 obtain⟨hpos2,hf2⟩:=Gg hb;obtain⟨x2,hx2⟩:∃x,(t2[0]).toNat=x:=⟨_,rfl⟩;have hi2:(0:Int)<(t2.size:Int):=by omega
 have HIx:Hid (x2<256/\Dd x2.toUInt8=false):=⟨by rw[<-hx2];exact UInt8.toNat_lt _,by rw[<-hx2,<-hs,hf2];simp⟩;have HNo:Hid (s2.peek=At/\(⟨s2.l.tail,s2.bad⟩:Rst)=s3/\s3.peek=t2):=⟨hno,h3,ht2⟩;obtain⟨y2,hy2⟩:∃y,(s4.plain t2).1=y:=⟨_,rfl⟩;obtain⟨s5,hs5⟩:∃y,(s4.plain t2).2=y:=⟨_,rfl⟩;have HY2:Hid ((s4.plain t2).1=y2/\(s4.plain t2).2=s5/\(⟨s3.l.tail,s3.bad⟩:Rst)=s4/\t2≠Ax):=⟨hy2,hs5,h4,hb⟩;rw[hy2,hs5];clear hno h3 ht2 hb hs hf2 hy2 hs5 h4;clear hy hs2;go_enter Tryz.func71,Tryz.ntmps71;go_wp2_with fail;refine(Cd t A s w H.out HP.out.1).mono ?_;rintro _ w1 ⟨rfl,hw1⟩;subst hw1;go_wp2_with fail;refine(AK A s t _ HE.out.2.1 HP.out.1 HP.out.2.1).mono ?_;rintro _ w2 ⟨rfl,ha2,hg2⟩;rw[HP.out.2.2.1]at ha2;have HE2:Hid _:=RE.to HE.out ha2 hg2;clear ha2 hg2 HE H;go_wp2_with fail;refine(Cr A s1 Ao _ HE2.out.2.1 HP.out.2.2.2).mono ?_;rintro _ w3 ⟨rfl,hw3⟩;subst hw3;go_wp2_with fail;refine(Fk A s1 t _ HE2.out.2.1 hsz).mono ?_;rintro _ w4 ⟨rfl,ha4,hg4⟩;rw[HY.out.2]at ha4;rw[HY.out.1];have HE5:Hid (Fw A w4.heap.size y w1 s2 _):=Fw.new (y:=y) ha4 (HE2.out.2.2.trans hg4) 1;clear ha4 hg4 HE2;go_wp2_with fail;refine(AK A s2 At _ HE5.out.2.2.1 HNo.out.1 (by decide)).mono ?_;rintro _ w6 ⟨rfl,ha6,hg6⟩;rw[HNo.out.2.1]at ha6;have HE6:Hid _:=Fw.to HE5.out ha6 hg6;clear ha6 hg6 HE5;go_wp2_with fail;refine(Cd t2 A s3 _ HE6.out.2.2.1 HNo.out.2.2).mono ?_;rintro _ w7 ⟨rfl,hw7⟩;subst hw7;have hsz2:t2.size<=1000:=by rw[<-HNo.out.2.2];exact G0 HE6.out.2.2.1
 go_wp2_with fail;refine(UM x2 HIx.out.1 _ HIx.out.2 _).mono ?_;rintro _ w8 ⟨n8,rfl,hn8,hw8⟩;subst hw8;go_wp2_with fail;refine(AK A s3 t2 _ HE6.out.2.2.1 HNo.out.2.2 HY2.out.2.2.2).mono ?_;rintro _ w9 ⟨rfl,ha9,hg9⟩;rw[HY2.out.2.2.1]at ha9;have HT:Hid _:=Fw.to HE6.out ha9 hg9;clear ha9 hg9 HE6;go_wp2_with fail;have HT:Hid _:=Fw.drew HT.out
 go_region_held3 (fun w'=>w'.cell? ⟨w4.heap.size+1,1,none⟩=some (.slice (some ⟨w4.heap.size,0,none⟩) 1 1)/\w'.cell? ⟨w4.heap.size,0,none⟩=some (.string y)) (first|exact HT.out.1|exact Fw.one HT.out _|exact Fw.two HT.out _ _)
  ((go_at_call 108;refine Calls.mono (Fk A s4 t2 _ HT.out.2.2.1 hsz2) ?_;rintro _ w10 ⟨rfl,ha10,hg10⟩;have HT:Hid _:=Fw.to HT.out ha10 hg10;clear ha10 hg10))
 rw[HY2.out.1];have HE11:Hid (RE A w1 _ _ s5 _):=UH (by have h:=HT.out.2.2.1;rw[HY2.out.2.1]at h;exact h) HT.out.2.2.2 3 y y2;clear HT;go_wp2;go_ret;exact⟨_,rfl,HE11.out.1,HE11.out.2.1,HE11.out.2.2⟩
theorem Wk (any:Rst->Qy×Rst) (d:Int) (hd0:0<=d) (hd:d<=12) (hO:Fx 13 any (d+1)):Fx 71 (DR any false) d:=by
 intro A s w h;have hd':¬12<d:=by omega
 obtain⟨t,ht⟩:∃t,s.peek=t:=⟨_,rfl⟩
 by_cases hp:t=B9
 ·exact Uo any A d s w h hd0 hd (ht.trans hp) hO _ (by
   unfold DR;simp only;rw[if_neg (by decide),if_pos (ht.trans hp)])
 ·cases hn:noOne t with
  |true=>
   have e:DR any false s=(Jy,s.fails 3):=by
    unfold DR;simp only;rw[if_neg (by decide),if_neg (by rw[ht];exact hp),if_pos (by rw[ht];exact hn)]
   rw[e];exact Up A d s w h hd' (by rw[ht];exact hn)
  |false=>
   by_cases hq:BA t=34
   ·exact RQ A d s t w h hd' ht hp hn hq _ (by
     unfold DR;simp only;rw[if_neg (by decide),if_neg (by rw[ht];exact hp),if_neg (by rw[ht,hn];decide),if_pos (by rw[ht];exact hq),ht])
   ·have e:DR any false s=if((s.take t).2.take Ao).1 then(.node 2 [A6 t] .nil .nil,((s.take t).2.take Ao).2.begins t (Aw t.data.toList))else C7 t ((s.take t).2.take Ao).2:=by
     unfold DR;simp only;rw[if_neg (by decide),if_neg (by rw[ht];exact hp),if_neg (by rw[ht,hn];decide),if_neg (by rw[ht];exact hq),ht]
    by_cases hst:(s.take t).2.peek=Ao
    ·refine Um A d s t w h hd' ht hp hn hq hst _ ?_
     rw[e,AH hst,if_pos rfl]
    ·rw[e,Ca hst,if_neg (by simp)]
     have hr:=X7 h hd' ht hp hn hq hst;obtain⟨s1,hs1⟩:∃u,(s.take t).2=u:=⟨_,rfl⟩;rw[hs1]at hr ⊢;show GR A d w (C7 t s1)
     by_cases hno:(s1.plain t).2.peek=At
     ·obtain⟨s3,hs3⟩:∃u,((s1.plain t).2.take At).2=u:=⟨_,rfl⟩
      have hs3':(⟨(s1.plain t).2.l.tail,(s1.plain t).2.bad⟩:Rst)=s3:=by rw[<-hs3,AH hno]
      by_cases hb:s3.peek=Ax
      ·rw[JZ hno hs3 (.inl hb)]
       exact Sc A d s t w s1 hr hno s3 hs3' _ rfl hb
      ·cases hsg:Dd (BA s3.peek)with
       |true=>
        rw[JZ hno hs3 (.inr hsg)];exact Sb A d s t w s1 hr hno s3 hs3' _ rfl hb hsg
       |false=>
        rw[JX hno hs3 (by rw[hsg];rintro(h|h);exact hb h;cases h)];exact U0 A d s t w s1 hr hno s3 hs3' _ rfl hb hsg _ (by rw[AH rfl])
     ·rw[Mu hno]
      exact Ul A d s t w s1 hr hno
theorem XM (m:Nat):m<=13->Fx 71 (BM m) (13-(m:Int)):=by
 induction m with
 |zero=>
  intro _ A s w h;exact Un A _ s w h (by decide)
 |succ m ih=>
  intro hm;have i1:=ih (by omega);have i2:=QY (BM m) _ (QZ (BM m) _ i1 (DS m)) (fun s=>(DS m s).1);refine Wk (EH (BM m)) _ (by omega) (by omega) ?_;rw[show(13-((m+1:Nat):Int)+1)=13-(m:Int) by omega];exact i2
theorem Xc:Fx 13 (EH (BM 13)) 0:=QY (BM 13) _ (QZ (BM 13) _ (XM 13 (Nat.le_refl _)) (DS 13)) (fun s=>(DS 13 s).1)
theorem Yf:∀n:Fin 256,decide (Lib.indexByte [32,40,41,42,34] n.val.toUInt8<0)=Bq n.val.toUInt8:=by decide+kernel
theorem QH (x:Nat) (hx:x<256) (b:Bool) (hb:Bq x.toUInt8=b) (w:World):Calls Tryz.prog 38 #[.string ⟨#[32,40,41,42,34]⟩,.int .u8 (x:Int)] w fun e w'=>∃n:Int,e= .returned (.int .i64 n)/\decide (n<0)=b/\w'=w:=by
 refine(GT ⟨#[32,40,41,42,34]⟩ (x:Int) w).mono ?_;rintro e w' ⟨rfl,rfl⟩;exact⟨_,rfl,by rw[<-hb];exact Yf ⟨x,hx⟩,rfl⟩
def Zn (w:World) (R:Option (List ByteArray)) (e:Ending) (w':World):Prop:=
 (R=none/\e= .returned (.tuple #[.slice none 0 0,.bool false])\/∃L v,R=some L/\e= .returned (.tuple #[v,.bool true])/\w'.ownsRow w.heap.size 9 1 v L.length (sc L))/\Below w.heap.size w w'
theorem F8 (s:ByteArray) (w:World) (hs:s.size<=1000):Calls Tryz.prog 12 #[.string s] w fun e w'=>Zn w (A0 s s.size 0) e w':=by
 obtain⟨i0,hi,hz0,hz1,hz2⟩:=Ja;obtain⟨R,hR⟩:∃R,A0 s s.size 0=R:=⟨_,rfl⟩;have HR:Hid ((A0 s s.size 0).map ([]++·)=R):=by show _=_;rw[<-hR];cases A0 s s.size 0<;>rfl
 rw[hR];clear hR;go_enter Tryz.func12,Tryz.ntmps12;go_wp2;go_loopw [4,5] (fun v i wr=>∃(k f:Nat) (l:List ByteArray),k<=s.size/\l.length<=k/\i= .int .i64 k/\Hid ((A0 s f k).map (l++·)=R/\s.size-k<=f)/\Hid (wr.ownsRow w.heap.size 9 1 v l.length (sc l)/\Below w.heap.size w wr)) (fun _ i _=>s.size-(intOf i).toNat)
 case atStart=>exact⟨0,s.size,[],Nat.zero_le _,Nat.zero_le _,rfl,⟨HR.out,by omega⟩,World.ownsRow_nil _ _ _ _,Below.refl _ _⟩
 case round=>
  clear HR;obtain⟨k,f,l,hk,hlk,rfl,hz,hown⟩:=hrel
  by_cases hlt:k<s.size
  ·obtain⟨f',rfl⟩:∃f',f=f'+1:=by
    cases f with
    |zero=>have:=hz.out.2;omega
    |succ f=>exact⟨f,rfl⟩
   have hz1':=hz.out.1;have hz2':=hz.out.2;rw[A0,dif_pos hlt]at hz1';have HO:Hid (wr.ownsRow w.heap.size 9 1 u4 l.length (sc l)):=hown.out.1;have HB:Hid (Below w.heap.size w wr):=hown.out.2;have hsw:=HB.out.size;have hlt':(k:Int)<(s.size:Int):=by omega
   obtain⟨x,hx⟩:∃x,s[k].toNat=x:=⟨_,rfl⟩;rw[hx]at hz1';have HX:Hid (∀p:UInt8->Bool,p x.toUInt8=true->Cf p s k=Cf p s (k+1)):=fun p hp=>Er hlt (by rw[show s[k]=x.toUInt8 by rw[<-hx];simp];exact hp);have hx256:x<256:=by rw[<-hx];exact UInt8.toNat_lt _
   clear hown hz
   by_cases x32:x=32
   ·rw[if_pos x32]at hz1'
    have HZ:Hid ((A0 s f' (k+1)).map (l++·)=R):=hz1';have j1:((x:Int) == 32)=true:=by simp;omega
    clear hz1' x32;go_wp2;go_roundw
    case rel=>exact⟨k+1,f',l,by omega,by omega,by go_num,⟨HZ.out,by omega⟩,HO.out,HB.out⟩
    case measure=>simp[intOf];omega
   ·rw[if_neg x32]at hz1'
    have j1:((x:Int) == 32)=false:=by simp;omega
    by_cases xs:x=40\/x=41\/x=42
    ·rw[if_pos xs]at hz1'
     have HZ:Hid ((A0 s f' (k+1)).map ((l++[s.extract k (k+1)])++·)=R):=by
      show _=_;rw[<-hz1',Option.map_map];congr 1;funext z;simp
     have key:(((x:Int) == 40)=true/\True)\/((((x:Int) == 40)=false/\((x:Int) == 41)=true)/\True)\/((((x:Int) == 40)=false/\((x:Int) == 41)=false/\((x:Int) == 42)=true)/\True):=by
      rcases xs with rfl|rfl|rfl
      ·exact .inl ⟨rfl,trivial⟩
      ·exact .inr (.inl ⟨⟨rfl,rfl⟩,trivial⟩)
      ·exact .inr (.inr ⟨⟨rfl,rfl,rfl⟩,trivial⟩)
     clear hz1' x32 xs;rcases key with⟨j2,_⟩|⟨⟨j2,j3⟩,_⟩|⟨⟨j2,j3,j4⟩,_⟩
     all_goals
      go_wp2_with (at_builtin;refine wpList_append_own _ rfl _ _ 22 rfl w.heap.size 9 i0 (.string ⟨#[]⟩) 1 16 Tryz.underlying22 hi hz0 hz1 hz2 rfl (by decide) _ _ _ rfl (HO.out.alloc _) ⟨wr.heap.size,0,none⟩ 1 1 [.string (s.extract k (k+1))] rfl rfl (cell_one_new _ _ _) (Jo _) (by simp[maxLen];omega) (by omega) (by simp;omega) ?_)
      intro v3 w3 ho3 hg3 _;have HB3:Hid (Below w.heap.size w w3):=(HB.out.alloc (by omega) _).grown hg3 (by simp;omega) (fun g hg=>(HO.out.lt g hg).1);have HO3:Hid (w3.ownsRow w.heap.size 9 1 v3 (l++[s.extract k (k+1)]).length (sc (l++[s.extract k (k+1)]))):=Hb ho3 (by simp) (by simp[sc]);clear ho3 hg3 HO HB;go_wp2;go_roundw
      case rel=>exact⟨k+1,f',l++[s.extract k (k+1)],by omega,by simp;omega,by go_num,⟨HZ.out,by omega⟩,HO3.out,HB3.out⟩
      case measure=>simp[intOf];omega
    ·rw[if_neg xs]at hz1'
     have j2:((x:Int) == 40)=false:=by simp;omega
     have j3:((x:Int) == 41)=false:=by simp;omega
     have j4:((x:Int) == 42)=false:=by simp;omega
     by_cases x34:x=34
     ·rw[if_pos x34]at hz1'
      have j5:((x:Int) == 34)=true:=by simp;omega
      have HZ:Hid ((if Cf Cj s (k+1)=s.size then none else(A0 s f' (Cf Cj s (k+1)+1)).map (s.extract k (Cf Cj s (k+1))::·)).map (l++·)=R):=hz1';obtain⟨E,hE⟩:∃E,Cf Cj s (k+1)=E:=⟨_,rfl⟩;have hE1:k+1<=E:=by rw[<-hE];exact Jt _ _ _
      have hE2:E<=s.size:=by rw[<-hE];exact Ik (by omega)
      have HE:Hid (Cf Cj s (k+1)=E):=hE;rw[hE]at HZ;clear hz1' x32 xs x34 hE;go_wp2;obtain⟨wo,rfl⟩:∃wo,wo=wr:=⟨_,rfl⟩;obtain⟨vo,rfl⟩:∃vo,vo=u4:=⟨_,rfl⟩;go_loopw [7] (fun i wr=>∃j:Nat,j<=E/\i= .int .i64 j/\Hid (Cf Cj s j=E)/\wr=wo) (fun i _=>s.size-(intOf i).toNat)
      case atStart=>exact⟨k+1,hE1,by go_num,HE,rfl⟩
      case round=>
       clear HE;obtain⟨j,hj,rfl,hej,rfl⟩:=hrel
       by_cases hjs:j<s.size
       ·have hjs':(j:Int)<(s.size:Int):=by omega
        obtain⟨y,hy⟩:∃y,s[j].toNat=y:=⟨_,rfl⟩
        by_cases y34:y=34
        ·have e:j=E:=by rw[<-hej.out,IK hjs (by rw[Cj,hy,y34];rfl)]
         subst e
         have HZ2:Hid ((A0 s f' (j+1)).map ((l++[s.extract k j])++·)=R):=by
          have h:=HZ.out;rw[if_neg (by omega),Option.map_map]at h;show _=_;rw[<-h];congr 1;funext z;simp
         have j6:((y:Int) == 34)=true:=by simp;omega
         have j7:((j:Int) == (s.size:Int))=false:=by simp;omega
         clear HZ y34 hej
         go_wp2_with (at_builtin;refine wpList_append_own _ rfl _ _ 22 rfl w.heap.size 9 i0 (.string ⟨#[]⟩) 1 16 Tryz.underlying22 hi hz0 hz1 hz2 rfl (by decide) _ _ _ rfl (HO.out.alloc _) ⟨wr.heap.size,0,none⟩ 1 1 [.string (s.extract k j)] rfl rfl (cell_one_new _ _ _) (Jo _) (by simp[maxLen];omega) (by omega) (by simp;omega) ?_)
         intro v3 w3 ho3 hg3 _;have HB3:Hid (Below w.heap.size w w3):=(HB.out.alloc (by omega) _).grown hg3 (by simp;omega) (fun g hg=>(HO.out.lt g hg).1);have HO3:Hid (w3.ownsRow w.heap.size 9 1 v3 (l++[s.extract k j]).length (sc (l++[s.extract k j]))):=Hb ho3 (by simp) (by simp[sc]);clear ho3 hg3 HO HB;go_wp2;go_roundw
         case rel=>exact⟨j+1,f',l++[s.extract k j],by omega,by simp;omega,by go_num,⟨HZ2.out,by omega⟩,HO3.out,HB3.out⟩
         case measure=>simp[intOf];omega
        ·have j6:((y:Int) == 34)=false:=by simp;omega
         have hq:Cj s[j]=true:=by rw[Cj,hy];simpa using y34
         have HE2:Hid (Cf Cj s (j+1)=E):=by show _=_;rw[<-Er hjs hq];exact hej.out
         have hle:j+1<=E:=by rw[<-HE2.out];exact Jt _ _ _
         clear hej y34 hq;go_wp2;go_roundw
         case rel=>exact⟨j+1,hle,by go_num,HE2,trivial⟩
         case measure=>simp[intOf];omega
       ·obtain rfl:j=s.size:=by omega
        have e:s.size=E:=by rw[<-hej.out,Kw (Nat.le_refl _)]
        have hn:R=none:=by
         have h:=HZ.out;rw[<-e,if_pos rfl]at h;exact h.symm
        subst hn;clear HZ hej;go_wp2;go_ret2;exact⟨.inl ⟨rfl,rfl⟩,HB.out⟩
     ·rw[if_neg x34]at hz1'
      have j5:((x:Int) == 34)=false:=by simp;omega
      obtain⟨E,hE⟩:∃E,Cf Bq s k=E:=⟨_,rfl⟩
      have hxc:Bq x.toUInt8=true:=by
       have h0:x.toUInt8.toNat=x:=by simp;omega
       have:∀c:UInt8,c.toNat≠32->c.toNat≠40->c.toNat≠41->c.toNat≠42->c.toNat≠34->Bq c=true:=by
        intro c h1 h2 h3 h4 h5
        have e:∀n:UInt8,c.toNat≠n.toNat->(c == n)=false:=fun n hn=>by
         rw[beq_eq_false_iff_ne];exact fun e=>hn (by rw[e])
        simp only[Bq,UO,e 32 h1,e 40 h2,e 41 h3,e 42 h4,e 34 h5];rfl
       exact this _ (by omega) (by omega) (by omega) (by omega) (by omega)
      have hE1:k+1<=E:=by rw[<-hE,HX.out Bq hxc];exact Jt _ _ _
      have hE2:E<=s.size:=by rw[<-hE];exact Ik (by omega)
      have HZ:Hid ((A0 s f' E).map ((l++[s.extract k E])++·)=R):=by
       rw[hE,Option.map_map]at hz1';show _=_;rw[<-hz1'];congr 1;funext z;simp
      have HE:Hid (Cf Bq s k=E):=hE;clear hz1' x32 xs x34 hE hxc;go_wp2;obtain⟨wo,rfl⟩:∃wo,wo=wr:=⟨_,rfl⟩;obtain⟨vo,rfl⟩:∃vo,vo=u4:=⟨_,rfl⟩;go_loopw [8] (fun i wr=>∃j:Nat,j<=E/\i= .int .i64 j/\Hid (Cf Bq s j=E)/\wr=wo) (fun i _=>s.size-(intOf i).toNat)
      case atStart=>exact⟨k,by omega,rfl,HE,rfl⟩
      case round=>
       clear HE;obtain⟨j,hj,rfl,hej,rfl⟩:=hrel
       by_cases hjs:j<s.size
       ·have hjs':(j:Int)<(s.size:Int):=by omega
        obtain⟨y,hy⟩:∃y,s[j].toNat=y:=⟨_,rfl⟩;have hyc:s[j]=y.toUInt8:=by rw[<-hy];simp
        obtain⟨b,hb⟩:∃b,Bq y.toUInt8=b:=⟨_,rfl⟩;have HIx:Hid (y<256/\Bq y.toUInt8=b):=⟨by rw[<-hy];exact UInt8.toNat_lt _,hb⟩
        cases b
        ·have e:j=E:=by rw[<-hej.out,IK hjs (by rw[hyc];exact hb)]
         subst e;clear hej hb hyc;go_wp2_with fail;refine(QH y HIx.out.1 _ HIx.out.2 _).mono ?_;rintro _ w8 ⟨n8,rfl,hn8,hw8⟩;subst hw8
         go_wp2_with (at_builtin;refine wpList_append_own _ rfl _ _ 22 rfl w.heap.size 9 i0 (.string ⟨#[]⟩) 1 16 Tryz.underlying22 hi hz0 hz1 hz2 rfl (by decide) _ _ _ rfl (HO.out.alloc _) ⟨w8.heap.size,0,none⟩ 1 1 [.string (s.extract k j)] rfl rfl (cell_one_new _ _ _) (Jo _) (by simp[maxLen];omega) (by omega) (by simp;omega) ?_)
         intro v3 w3 ho3 hg3 _;have HB3:Hid (Below w.heap.size w w3):=(HB.out.alloc (by omega) _).grown hg3 (by simp;omega) (fun g hg=>(HO.out.lt g hg).1);have HO3:Hid (w3.ownsRow w.heap.size 9 1 v3 (l++[s.extract k j]).length (sc (l++[s.extract k j]))):=Hb ho3 (by simp) (by simp[sc]);clear ho3 hg3 HO HB;go_wp2;go_roundw
         case rel=>exact⟨j,f',l++[s.extract k j],by omega,by simp;omega,by go_num,⟨HZ.out,by omega⟩,HO3.out,HB3.out⟩
         case measure=>simp[intOf];omega
        ·have HE2:Hid (Cf Bq s (j+1)=E):=by show _=_;rw[<-Er hjs (by rw[hyc];exact hb)];exact hej.out
         have hle:j+1<=E:=by rw[<-HE2.out];exact Jt _ _ _
         clear hej hb hyc;go_wp2_with fail;refine(QH y HIx.out.1 _ HIx.out.2 _).mono ?_;rintro _ w8 ⟨n8,rfl,hn8,hw8⟩;subst hw8;go_wp2;go_roundw
         case rel=>exact⟨j+1,hle,by go_num,HE2,trivial⟩
         case measure=>simp[intOf];omega
       ·have hjs':¬(j:Int)<(s.size:Int):=by omega
        have e:j=E:=by rw[<-hej.out,Kw (by omega)]
        subst e;clear hej
        go_wp2_with (at_builtin;refine wpList_append_own _ rfl _ _ 22 rfl w.heap.size 9 i0 (.string ⟨#[]⟩) 1 16 Tryz.underlying22 hi hz0 hz1 hz2 rfl (by decide) _ _ _ rfl (HO.out.alloc _) ⟨wr.heap.size,0,none⟩ 1 1 [.string (s.extract k j)] rfl rfl (cell_one_new _ _ _) (Jo _) (by simp[maxLen];omega) (by omega) (by simp;omega) ?_)
        intro v3 w3 ho3 hg3 _;have HB3:Hid (Below w.heap.size w w3):=(HB.out.alloc (by omega) _).grown hg3 (by simp;omega) (fun g hg=>(HO.out.lt g hg).1);have HO3:Hid (w3.ownsRow w.heap.size 9 1 v3 (l++[s.extract k j]).length (sc (l++[s.extract k j]))):=Hb ho3 (by simp) (by simp[sc]);clear ho3 hg3 HO HB;go_wp2;go_roundw
        case rel=>exact⟨j,f',l++[s.extract k j],by omega,by simp;omega,by go_num,⟨HZ.out,by omega⟩,HO3.out,HB3.out⟩
        case measure=>simp[intOf];omega
  ·obtain rfl:k=s.size:=by omega
   have e:R=some l:=by
    have h:=hz.out.1;rw[ND (Nat.le_refl _)]at h;rw[<-h];simp
   subst e;have HO:Hid (wr.ownsRow w.heap.size 9 1 u4 l.length (sc l)):=hown.out.1;have HB:Hid (Below w.heap.size w wr):=hown.out.2;clear hown hz;go_wp2;go_ret2;exact⟨.inr ⟨l,_,rfl,rfl,HO.out⟩,HB.out⟩
theorem MO {w:World} {a:Option Addr} {c:Nat} {L:List ByteArray} {B:Nat} (h:w.ownsRow B 9 1 (.slice a L.length c) L.length (sc L)) (hl:L.length<=1000) (hx:∀x∈L,x.size<=1000):
  Av w.heap.size ⟨L,0⟩ (w.alloc (.cells #[.slice a L.length c,.int .i64 0] 53)):=by
 have hn:=heap_alloc_new w (.cells #[.slice a L.length c,.int .i64 0] 53);refine⟨⟨a,c,by simp,?_,?_,hl⟩,by simp,?_,?_,by simp,hx⟩
 ·rcases h.2 with⟨e,h0⟩|⟨g,cap,cur,e,_,hg,_⟩
  ·exact .inl (List.length_eq_zero_iff.1 h0)
  ·cases e
   have hgl:g<w.heap.size:=(Array.getElem?_eq_some_iff.1 hg).1;refine .inr ⟨g,0,rfl,hgl,fun i hi=> ?_⟩;rw[World.cell?_alloc_lt _ _ _ (by exact hgl)];have hi':i<L.length:=hi;have k0:=h.cells (g:=g) rfl i (.string L[i]) (by simp[sc,hi']);rw[Go.WideShapes.add_plain]at k0;exact k0
 ·rcases h.2 with⟨e,h0⟩|⟨g,cap,cur,e,_,_,hc,_⟩
  ·show L.length<=c;omega
  ·cases e;exact hc
 ·simp only[World.frozen?,hn];simp
 ·simp only[World.frozen?,hn];simp
theorem WZ (s:ByteArray) (w:World) (hs:s.size<=1000):Calls Tryz.prog 4 #[.string s] w fun e w'=>∃p A,e= .returned (.tuple #[.pointer p,.int .i64 (BN s).2])/\w.heap.size<=A/\QIs A w' p (BN s).1/\Below w.heap.size w w':=by
 have HTop:Hid (Fx 13 (EH (BM 13)) 0):=Xc
 cases hp:A0 s s.size 0 with
 |none=>
  have HA:Hid (BN s=(.nil,3)):=GD hp;have HP:Hid (A0 s s.size 0=none):=hp;clear hp;go_enter Tryz.func4,Tryz.ntmps4;go_wp2_with fail;refine(F8 s w hs).mono ?_;rintro e w1 ⟨hT,hb1⟩;rw[HP.out]at hT;rcases hT with⟨_,rfl⟩|⟨L,v,e,_⟩
  ·have HB1:Hid (Below w.heap.size w w1):=hb1
   clear hb1;go_wp2;go_ret2;rw[HA.out];exact⟨none,w.heap.size,rfl,Nat.le_refl _,rfl,HB1.out⟩
  ·cases e
 |some L=>
  obtain⟨q,hq⟩:∃q,(EH (BM 13) ⟨L,0⟩).1=q:=⟨_,rfl⟩;obtain⟨s2,hs2⟩:∃t,(EH (BM 13) ⟨L,0⟩).2=t:=⟨_,rfl⟩;have HQ:Hid ((EH (BM 13) ⟨L,0⟩).1=q/\(EH (BM 13) ⟨L,0⟩).2=s2):=⟨hq,hs2⟩;obtain⟨hl1,hl2⟩:=IX s s.size 0 L hp;have HL:Hid (L.length<=1000/\∀x∈L,x.size<=1000):=⟨by omega,fun x hx=>by have:=hl2 x hx;omega⟩
  have HA:Hid (∀s3,(if s2.l=[]then s2 else s2.fails 3)=s3->BN s=(if s3.bad=0 then q else .nil,s3.bad)):=fun s3 e=>by
   rw[GC hp];unfold IN;simp only;rw[hq,hs2,e]
  have HP:Hid (A0 s s.size 0=some L):=hp;clear hp hq hs2 hl1 hl2
  by_cases hl0:s2.l=[]
  ·have HA2:Hid (BN s=(if s2.bad=0 then q else .nil,s2.bad)):=HA.out s2 (by rw[if_pos hl0])
   have HL0:Hid (s2.l.length=0):=by show _=_;rw[hl0];rfl
   clear HA hl0
   by_cases hb0:s2.bad=0
   ·have HA3:Hid (BN s=(q,0)):=by show _=_;rw[HA2.out,if_pos hb0,hb0]
    have HB0:Hid (s2.bad=0):=hb0;clear HA2 hb0;go_enter Tryz.func4,Tryz.ntmps4;go_wp2_with fail;refine(F8 s w hs).mono ?_;rintro e w1 ⟨hT,hb1⟩;rw[HP.out]at hT;rcases hT with⟨e,_⟩|⟨L',v,e,rfl,ho⟩
    ·cases e
    cases e
    obtain⟨a,c,rfl⟩:∃a c,v= .slice a L.length c:=by
     rcases ho.2 with⟨rfl,h0⟩|⟨g,cap,cur,rfl,_⟩
     ·exact⟨none,0,by rw[h0]⟩
     ·exact⟨_,cap,rfl⟩
    have HK:Hid _:=MO ho HL.out.1 HL.out.2;have HB1:Hid (Below w.heap.size w w1):=hb1;have HBx:Hid (Below w.heap.size w (w1.alloc (.cells #[.slice a L.length c,.int .i64 0] 53))):=hb1.alloc hb1.size _;clear ho hb1;go_wp2_with fail;refine(HTop.out w1.heap.size ⟨L,0⟩ _ HK.out).mono ?_;rintro _ w2 ⟨p2,rfl,hq2,ha2,hg2⟩;rw[HQ.out.1]at hq2;rw[HQ.out.2]at ha2;have HQ2:Hid (QIs w1.heap.size w2 p2 q):=hq2;have HB2:Hid (Below w.heap.size w w2):=HBx.out.trans (Dl hg2 _ HB1.out.size HBx.out.size);obtain⟨⟨a',c',k1,_⟩,k2,_⟩:=ha2;rw[HL0.out]at k1;rw[HB0.out]at k2;have hsz1:=HB1.out.size;clear hq2 hg2 HK HBx HB1;go_wp2;go_ret2;rw[HA3.out];exact⟨p2,w1.heap.size,rfl,hsz1,HQ2.out,HB2.out⟩
   ·have HA3:Hid (BN s=(.nil,s2.bad)):=by show _=_;rw[HA2.out,if_neg hb0]
    have d0:(s2.bad == 0)=false:=by simpa using hb0
    clear HA2 hb0;go_enter Tryz.func4,Tryz.ntmps4;go_wp2_with fail;refine(F8 s w hs).mono ?_;rintro e w1 ⟨hT,hb1⟩;rw[HP.out]at hT;rcases hT with⟨e,_⟩|⟨L',v,e,rfl,ho⟩
    ·cases e
    cases e
    obtain⟨a,c,rfl⟩:∃a c,v= .slice a L.length c:=by
     rcases ho.2 with⟨rfl,h0⟩|⟨g,cap,cur,rfl,_⟩
     ·exact⟨none,0,by rw[h0]⟩
     ·exact⟨_,cap,rfl⟩
    have HK:Hid _:=MO ho HL.out.1 HL.out.2;have HB1:Hid (Below w.heap.size w w1):=hb1;have HBx:Hid (Below w.heap.size w (w1.alloc (.cells #[.slice a L.length c,.int .i64 0] 53))):=hb1.alloc hb1.size _;clear ho hb1;go_wp2_with fail;refine(HTop.out w1.heap.size ⟨L,0⟩ _ HK.out).mono ?_;rintro _ w2 ⟨p2,rfl,hq2,ha2,hg2⟩;rw[HQ.out.1]at hq2;rw[HQ.out.2]at ha2;have HQ2:Hid (QIs w1.heap.size w2 p2 q):=hq2;have HB2:Hid (Below w.heap.size w w2):=HBx.out.trans (Dl hg2 _ HB1.out.size HBx.out.size);obtain⟨⟨a',c',k1,_⟩,k2,_⟩:=ha2;rw[HL0.out]at k1;clear hq2 hg2 HK HBx HB1 HQ2;go_wp2;go_quiet (fail);have HB3:Hid (Below w.heap.size w (w2.drewN nq)):=below_drewN HB2.out _;clear HB2;go_wp2;go_ret2;rw[HA3.out];exact⟨none,w.heap.size,rfl,Nat.le_refl _,rfl,HB3.out⟩
  ·obtain⟨s3,hs3⟩:∃t,s2.fails 3=t:=⟨_,rfl⟩
   have hb3:s3.bad≠0:=by
    rw[<-hs3];unfold Rst.fails
    by_cases h:s2.bad=0
    ·rw[if_pos h];show(3:Int)≠0;decide
    ·rw[if_neg h];exact h
   have HA3:Hid (BN s=(.nil,s3.bad)):=by
    show _=_;rw[HA.out s3 (by rw[if_neg hl0];exact hs3),if_neg hb3]
   have d0:(s3.bad == 0)=false:=by simpa using hb3
   have hl1:s2.l.length≠0:=fun e=>hl0 (List.length_eq_zero_iff.1 e);have HS3:Hid (s2.fails 3=s3):=hs3;clear HA hl0 hs3 hb3;go_enter Tryz.func4,Tryz.ntmps4;go_wp2_with fail;refine(F8 s w hs).mono ?_;rintro e w1 ⟨hT,hb1⟩;rw[HP.out]at hT;rcases hT with⟨e,_⟩|⟨L',v,e,rfl,ho⟩
   ·cases e
   cases e
   obtain⟨a,c,rfl⟩:∃a c,v= .slice a L.length c:=by
    rcases ho.2 with⟨rfl,h0⟩|⟨g,cap,cur,rfl,_⟩
    ·exact⟨none,0,by rw[h0]⟩
    ·exact⟨_,cap,rfl⟩
   have HK:Hid _:=MO ho HL.out.1 HL.out.2;have HB1:Hid (Below w.heap.size w w1):=hb1;have HBx:Hid (Below w.heap.size w (w1.alloc (.cells #[.slice a L.length c,.int .i64 0] 53))):=hb1.alloc hb1.size _;clear ho hb1;go_wp2_with fail;refine(HTop.out w1.heap.size ⟨L,0⟩ _ HK.out).mono ?_;rintro _ w2 ⟨p2,rfl,hq2,ha2,hg2⟩;rw[HQ.out.1]at hq2;rw[HQ.out.2]at ha2;have HQ2:Hid (QIs w1.heap.size w2 p2 q):=hq2;have HB2:Hid (Below w.heap.size w w2):=HBx.out.trans (Dl hg2 _ HB1.out.size HBx.out.size);have HK2:Hid (Av w1.heap.size s2 w2):=ha2;have HBw:Hid (w.heap.size<=w1.heap.size):=HB1.out.size;obtain⟨⟨a',c',k1,_,_,hn3⟩,_⟩:=ha2;obtain⟨n,hn⟩:∃n,s2.l.length=n:=⟨_,rfl⟩;rw[hn]at k1 hl1 hn3;have d1:decide ((0:Int)<(n:Int))=true:=by simp;omega
   clear hq2 hg2 HK HBx HB1 HQ2 hn;go_wp2_with fail;refine(CN w1.heap.size s2 3 _ HK2.out).mono ?_;rintro _ w3 ⟨rfl,ha3,hg3⟩;rw[HS3.out]at ha3;have HB3:Hid (Below w.heap.size w w3):=HB2.out.trans (Dl hg3 _ HBw.out HB2.out.size);obtain⟨_,k3,_⟩:=ha3;clear hg3 HB2 HK2 k1;go_wp2;go_quiet (fail);have HB4:Hid (Below w.heap.size w (w3.drewN nq)):=below_drewN HB3.out _;clear HB3;go_wp2;go_ret2;rw[HA3.out];exact⟨none,w.heap.size,rfl,Nat.le_refl _,rfl,HB4.out⟩
set_option maxHeartbeats 1000000
theorem LG (s:ByteArray) (w:World):Calls Tryz.prog 42 #[.string s,.string ⟨#[34]⟩] w fun e w'=>e= .returned (.int .i64 (Lib.countByte s.data.toList 34))/\w'=w:=by
 go_enter Tryz.func42,Tryz.ntmps42;go_wp2;rw[run_callFunc_extern Tryz.func74 (by kernel_rfl) (by kernel_rfl) (by kernel_rfl) (e:=Extern.BytealgCount.count) (by kernel_rfl),Lib.run_countString];simp only[Result.andThen];rw[Oper.upon_value];go_wp2;go_ret;exact⟨rfl,rfl⟩
theorem Tv {s:ByteArray} (h:0<s.size) (hc:s[0].toNat=32):(s.extract 1 s.size).data.toList.dropWhile (· == 32)=s.data.toList.dropWhile (· == 32):=by
 have e:=CZ s 0 h;rw[List.drop_zero]at e;have e32:s[0]=32:=UInt8.toNat_inj.1 hc;rw[Ch,<-AF,List.take_length]
 conv=>rhs;rw[e,List.dropWhile_cons,if_pos (by rw[e32];rfl)]
theorem VK {s:ByteArray} (h:0<s.size) (hc:s[0].toNat≠32):s.data.toList.dropWhile (· == 32)=s.data.toList:=by
 have e:=CZ s 0 h;rw[List.drop_zero]at e;rw[e,List.dropWhile_cons,if_neg (by rw[beq_iff_eq];intro k;exact hc (by rw[k];rfl))]
theorem Xu (t:ByteArray):(⟨t.data.toList.toArray⟩:ByteArray)=t:=Dy (by simp)
theorem Hq {s:ByteArray} (h:s.size=0):s.data.toList=[]:=List.length_eq_zero_iff.1 (by rw[AF];exact h)
set_option maxHeartbeats 2000000
theorem LW (s:ByteArray) (w:World) (hs:s.size<=1000):Calls Tryz.prog 158 #[.string s,.int .u8 32] w fun e w'=>e= .returned (.string ⟨(s.data.toList.dropWhile (· == 32)).toArray⟩)/\w'=w:=by
 obtain⟨R,hR⟩:∃R,s.data.toList.dropWhile (· == 32)=R:=⟨_,rfl⟩;rw[hR];have HR:Hid (s.data.toList.dropWhile (· == 32)=R):=hR;clear hR;go_enter Tryz.func158,Tryz.ntmps158;go_wp2;go_loopw [0] (fun v wr=>∃t:ByteArray,v= .string t/\t.size<=1000/\Hid (t.data.toList.dropWhile (· == 32)=R)/\wr=w) (fun v _=>J6 v)
 case atStart=>exact⟨s,rfl,hs,HR,rfl⟩
 case round=>
  clear HR;obtain⟨t,rfl,ht,hz,rfl⟩:=hrel
  by_cases h0:t.size=0
  ·have d1:decide ((0:Int)<(t.size:Int))=false:=decide_eq_false (by omega)
   have HE:Hid (t.data.toList=R):=by
    show _=_;rw[<-hz.out,Hq h0];rfl
   clear hz;go_wp2;go_ret;exact⟨by rw[<-HE.out,Xu];rfl,rfl⟩
  ·have h1:0<t.size:=by omega
   have d1:decide ((0:Int)<(t.size:Int))=true:=decide_eq_true (by omega);obtain⟨x,hx⟩:∃x,t[0].toNat=x:=⟨_,rfl⟩
   by_cases hc:x=32
   ·have HE:Hid ((t.extract 1 t.size).data.toList.dropWhile (· == 32)=R):=by
     show _=_;rw[<-hz.out];exact Tv h1 (by rw[hx,hc])
    have j1:((x:Int) == 32)=true:=by simp;omega
    clear hz hc;go_wp2;go_roundw
    case rel=>exact⟨_,rfl,by simp;omega,HE,trivial⟩
    case measure=>simp[J6];omega
   ·have HE:Hid (t.data.toList=R):=by
     show _=_;rw[<-hz.out,VK h1 (by rw[hx];exact hc)]
    have j1:((x:Int) == 32)=false:=by simp;omega
    clear hz hc;go_wp2;go_ret;exact⟨by rw[<-HE.out,Xu];rfl,rfl⟩
theorem Ty (s:ByteArray) (w:World) (hs:s.size<=1000):Calls Tryz.prog 110 #[.string s,.string ⟨#[32]⟩] w fun e w'=>e= .returned (.string ⟨(s.data.toList.dropWhile (· == 32)).toArray⟩)/\w'=w:=by
 by_cases h0:s.size=0
 ·have e0:s=⟨#[]⟩:=Dy (by rw[Hq h0])
  subst e0;clear h0;go_enter Tryz.func110,Tryz.ntmps110;go_wp2;go_ret;exact⟨rfl,rfl⟩
 ·have d1:(s.toList == [])=false:=by
   rw[ByteArray.toList_eq];rw[beq_eq_false_iff_ne];intro e;have:=congrArg List.length e;rw[AF]at this;exact h0 this
  clear h0;go_enter Tryz.func110,Tryz.ntmps110
  go_wp2_with (go_at_call 158;refine(LW _ _ hs).mono ?_;rintro e w' ⟨rfl,rfl⟩)
  go_ret;exact⟨rfl,rfl⟩
end
end Go.Proofs.YtgfldnaahojnlaaGreatDoor
