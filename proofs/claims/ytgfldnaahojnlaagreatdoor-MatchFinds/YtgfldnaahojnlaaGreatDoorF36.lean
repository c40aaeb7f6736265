/- MatchFinds: part 36. -/
import Derived.Test.YtgfldnaahojnlaaGreatDoorF35
import Derived.Lib.Bytealg
set_option maxRecDepth 100000
set_option maxHeartbeats 4000000
namespace Go.Proofs.YtgfldnaahojnlaaGreatDoor
section
open Go.RowKit
section
variable {bf:Nat} {nm:ByteArray} {pls:ByteArray->List Pl} {beg:ByteArray->List ByteArray} {w:World}
theorem Oi:∀n,MU bf nm pls beg n
 |0=>fun _ _ _ h=>absurd h (Nat.not_lt_zero _)
 |n+1=>S9 n (Oi n)
set_option maxHeartbeats 1000000
theorem UZ (hF:Fdr bf nm pls beg w) (q:Qy) (p:Option Addr) (hq:MIs w p q) (hk:QOk q) (hl:lvs q<=400) (hz:szQ q<=1000):
  Calls Tryz.prog 10 #[.pointer (some ⟨bf,0,none⟩),.string nm,.pointer p] w fun e w'=>∃v,e= .returned (.tuple #[v,.nilIface])/\InH w' v (A7 pls beg q)/\Below w.heap.size w w':=by
 have HFI:Hid _:=Oi (bf:=bf) (nm:=nm) (pls:=pls) (beg:=beg) (szQ q+1) q w p (Nat.lt_succ_self _) hF hq hk hl hz;clear hF hq hk hl hz;go_enter Tryz.func10,Tryz.ntmps10;go_wp2_with fail;refine(show Calls _ _ _ _ _ from HFI.out).mono ?_;rintro _ w1 ⟨v1,rfl,hi1,hb1⟩;have HI1:Hid (InH w1 v1 (A7 pls beg q)):=hi1;have HB1:Hid (Below w.heap.size w w1):=hb1;clear hi1 hb1 HFI;go_wp2;go_ret2;exact⟨_,rfl,HI1.out,HB1.out⟩
end
def Zj:Value->Int
 | .int _ n=>n
 |_=>0
def YU:Value->Nat
 | .slice _ n _=>n
 |_=>0
def nuW (w:World) (A:Nat):Nat:=match w.cell? ⟨A,1,none⟩,w.cell? ⟨A,0,none⟩with
 |some b,some l=>if Zj b=0 then YU l else 0
 |_,_=>0
theorem I9 {A:Nat} {s:Rst} {w:World} (h:Av A s w):nuW w A=s.nu:=by
 obtain⟨⟨a,c,h1,_⟩,h4,_⟩:=h;unfold nuW;rw[h1,h4];rfl
def Fx (f:Nat) (g:Rst->Qy×Rst) (d:Int):Prop:=∀(A:Nat) (s:Rst) (w:World),Av A s w->
 Calls Tryz.prog f #[.pointer (some ⟨A,0,none⟩),.int .i64 d] w fun e w'=>∃p,e= .returned (.pointer p)/\QIs A w' p (g s).1/\Av A (g s).2 w'/\w.grownBy w' (some A)
theorem Oe (p:ByteArray):Jh p=(!(p.toList == []) && !(p.toList == [41]) && !(p.toList == [79,82])):=by
 rw[Ff,Ff,Ff];rfl
theorem Ms {s:Rst} (h:s.nu=0):s.peek=Ax:=by
 unfold Rst.nu at h;split at h
 ·exact NF (List.length_eq_zero_iff.1 h)
 ·rename_i hb;exact Lt hb
def RE (A:Nat) (w:World) (p:Option Addr) (q:Qy) (s:Rst) (wx:World):Prop:=QIs A wx p q/\Av A s wx/\w.grownBy wx (some A)
theorem RE.to {A:Nat} {w:World} {p:Option Addr} {q:Qy} {s s':Rst} {wx wy:World} (h:RE A w p q s wx) (ha:Av A s' wy) (hg:wx.grownBy wy (some A)):RE A w p q s' wy:=⟨QIs.grown hg q h.1,ha,h.2.2.trans hg⟩
theorem QZ (one:Rst->Qy×Rst) (d:Int) (hO:Fx 71 one d) (hn:∀s,(one s).2.nu<=s.nu/\(s.peek≠Ax->(one s).2.nu<s.nu)):Fx 39 (Dz one) d:=by
 intro A s w h;have HO:Hid (Fx 71 one d):=hO;have HN:Hid (∀s,(one s).2.nu<=s.nu/\(s.peek≠Ax->(one s).2.nu<s.nu)):=hn;have H:Hid (Av A s w):=h;clear hO hn h;obtain⟨R,hR⟩:∃R,Dz one s=R:=⟨_,rfl⟩;have HR:Hid (CW one (one s).2.nu (one s).1 (one s).2=R):=hR;rw[hR];clear hR;go_enter Tryz.func39,Tryz.ntmps39;go_wp2_with fail;refine(HO.out A s w H.out).mono ?_;rintro _ w1 ⟨p1,rfl,hq1,ha1,hg1⟩;have HE:Hid (RE A w p1 (one s).1 (one s).2 w1):=⟨hq1,ha1,hg1⟩;clear hq1 ha1 hg1 H;obtain⟨q1,hq1⟩:∃q,(one s).1=q:=⟨_,rfl⟩;obtain⟨s1,hs1⟩:∃t,(one s).2=t:=⟨_,rfl⟩;rw[hq1,hs1]at HE HR;clear hq1 hs1;go_wp2_with fail;refine(E5 A s1 w1 HE.out.2.1).mono ?_;rintro _ w2 ⟨rfl,hw2⟩;subst hw2;go_wp2;go_loopw [5,6] (fun v t wr=>∃(p:Option Addr) (q:Qy) (s:Rst) (f:Nat),v= .pointer p/\t= .string s.peek/\Hid (RE A w p q s wr)/\Hid (CW one f q s=R/\s.nu<=f)) (fun _ _ wr=>nuW wr A)
 case atStart=>exact⟨p1,q1,s1,s1.nu,rfl,rfl,HE,HR.out,Nat.le_refl _⟩
 case round=>
  clear HE HR;obtain⟨p,q,s,f,rfl,rfl,HE,hz⟩:=hrel;have hmu:=I9 HE.out.2.1
  by_cases hg:Jh s.peek=true
  ·have hne:s.peek≠Ax:=fun e=>by rw[e]at hg;exact absurd hg (by decide)
   obtain⟨f',rfl⟩:∃f',f=f'+1:=by
    cases f with
    |zero=>exact absurd (Ms (Nat.le_zero.1 hz.out.2)) hne
    |succ f=>exact⟨f,rfl⟩
   have HZ:Hid (∀b s2,(s.take BK).1=b->(if b then(s.take BK).2 else((s.take BK).2.take D7).2)=s2->CW one f' (.node (if b then 6 else 4) [] q (one s2).1) (one s2).2=R):=by
    intro b s2 hb hs2;have h0:=hz.out.1;rw[CW,if_pos hg]at h0;simp only at h0;rw[hb,hs2]at h0;exact h0
   have hnf:=hz.out.2;have hg':=hg;rw[Oe]at hg';simp only[Bool.and_eq_true,Bool.not_eq_true']at hg';obtain⟨⟨d0,d1⟩,d2⟩:=hg';have hnp:s.nu≠0:=fun e=>hne (Ms e);clear hz hg
   by_cases hN:s.peek=BK
   ·obtain⟨s2,hs2⟩:∃t,(⟨s.l.tail,s.bad⟩:Rst)=t:=⟨_,rfl⟩
    have ht:s.take BK=(true,s2):=by rw[AH hN,hs2]
    have hnu2:s2.nu<s.nu:=by have:=Da hN (by decide);rw[ht]at this;exact this
    have HT:Hid (s.peek=BK/\s.take BK=(true,s2)/\(⟨s.l.tail,s.bad⟩:Rst)=s2):=⟨hN,ht,hs2⟩;clear hN ht hs2;go_wp2_with fail;refine(AK A s BK wr HE.out.2.1 HT.out.1 (by decide)).mono ?_;rintro _ w3 ⟨rfl,ha3,hg3⟩;rw[HT.out.2.2]at ha3;have HE3:Hid (RE A w p q s2 w3):=RE.to HE.out ha3 hg3;clear ha3 hg3 HE;have HZ2:Hid (CW one f' (.node 6 [] q (one s2).1) (one s2).2=R):=HZ.out true s2 (by rw[HT.out.2.1]) (by rw[HT.out.2.1];rfl)
    have hlt2:(one s2).2.nu<s.nu:=by
     have:=(HN.out s2).1;omega
    clear HZ;go_wp2_with fail;refine(HO.out A s2 w3 HE3.out.2.1).mono ?_;rintro _ w4 ⟨p4,rfl,hq4,ha4,hg4⟩;have HE4:Hid (RE A w p q (one s2).2 w4):=RE.to HE3.out ha4 hg4;have HQ4:Hid (QIs A w4 p4 (one s2).1):=hq4;clear hq4 ha4 hg4 HE3;obtain⟨q4,hq4⟩:∃q,(one s2).1=q:=⟨_,rfl⟩;obtain⟨s4,hs4⟩:∃t,(one s2).2=t:=⟨_,rfl⟩;rw[hq4]at HQ4 HZ2;rw[hs4]at HE4 HZ2 hlt2;clear hq4 hs4;have hA4:A<w4.heap.size:=HE4.out.2.1.2.2.2.2.1
    have HE5:Hid (RE A w (some ⟨w4.heap.size,0,none⟩) (.node 6 [] q q4) s4 (w4.alloc (.cells #[.int .i64 6,.slice none 0 0,.pointer p,.pointer p4] 90))):=
     ⟨QIs.box hA4 6 _ p p4 [] q q4 (DA A w4) HE4.out.1 HQ4.out,HE4.out.2.1.below ((Below.refl _ _).alloc (Nat.le_refl _) _),HE4.out.2.2.trans (Ac ((Below.refl _ _).alloc (Nat.le_refl _) _) _)⟩
    clear HE4 HQ4;go_wp2_with fail;refine(E5 A s4 _ HE5.out.2.1).mono ?_;rintro _ w6 ⟨rfl,hw6⟩;subst hw6;go_wp2;go_roundw
    case rel=>exact⟨_,_,s4,f',rfl,rfl,HE5,HZ2.out,by omega⟩
    case measure=>rw[hmu,I9 HE5.out.2.1];exact hlt2
   ·have htN:s.take BK=(false,s):=Ca hN
    by_cases hA:s.peek=D7
    ·obtain⟨s2,hs2⟩:∃t,(⟨s.l.tail,s.bad⟩:Rst)=t:=⟨_,rfl⟩
     have ht:s.take D7=(true,s2):=by rw[AH hA,hs2]
     have hnu2:s2.nu<s.nu:=by have:=Da hA (by decide);rw[ht]at this;exact this
     have HT:Hid (s.peek≠BK/\s.peek=D7/\s.take BK=(false,s)/\s.take D7=(true,s2)/\(⟨s.l.tail,s.bad⟩:Rst)=s2):=⟨hN,hA,htN,ht,hs2⟩;clear hN hA htN ht hs2;go_wp2_with fail;refine(Cr A s BK wr HE.out.2.1 HT.out.1).mono ?_;rintro _ w2' ⟨rfl,hw2'⟩;subst hw2';go_wp2_with fail;refine(AK A s D7 _ HE.out.2.1 HT.out.2.1 (by decide)).mono ?_;rintro _ w3 ⟨rfl,ha3,hg3⟩;rw[HT.out.2.2.2.2]at ha3;have HE3:Hid (RE A w p q s2 w3):=RE.to HE.out ha3 hg3;clear ha3 hg3 HE;have HZ2:Hid (CW one f' (.node 4 [] q (one s2).1) (one s2).2=R):=HZ.out false s2 (by rw[HT.out.2.2.1]) (by rw[HT.out.2.2.1];simp only;rw[HT.out.2.2.2.1];rfl)
     have hlt2:(one s2).2.nu<s.nu:=by
      have:=(HN.out s2).1;omega
     clear HZ;go_wp2_with fail;refine(HO.out A s2 w3 HE3.out.2.1).mono ?_;rintro _ w4 ⟨p4,rfl,hq4,ha4,hg4⟩;have HE4:Hid (RE A w p q (one s2).2 w4):=RE.to HE3.out ha4 hg4;have HQ4:Hid (QIs A w4 p4 (one s2).1):=hq4;clear hq4 ha4 hg4 HE3;obtain⟨q4,hq4⟩:∃q,(one s2).1=q:=⟨_,rfl⟩;obtain⟨s4,hs4⟩:∃t,(one s2).2=t:=⟨_,rfl⟩;rw[hq4]at HQ4 HZ2;rw[hs4]at HE4 HZ2 hlt2;clear hq4 hs4;have hA4:A<w4.heap.size:=HE4.out.2.1.2.2.2.2.1
     have HE5:Hid (RE A w (some ⟨w4.heap.size,0,none⟩) (.node 4 [] q q4) s4 (w4.alloc (.cells #[.int .i64 4,.slice none 0 0,.pointer p,.pointer p4] 90))):=
      ⟨QIs.box hA4 4 _ p p4 [] q q4 (DA A w4) HE4.out.1 HQ4.out,HE4.out.2.1.below ((Below.refl _ _).alloc (Nat.le_refl _) _),HE4.out.2.2.trans (Ac ((Below.refl _ _).alloc (Nat.le_refl _) _) _)⟩
     clear HE4 HQ4;go_wp2_with fail;refine(E5 A s4 _ HE5.out.2.1).mono ?_;rintro _ w6 ⟨rfl,hw6⟩;subst hw6;go_wp2;go_roundw
     case rel=>exact⟨_,_,s4,f',rfl,rfl,HE5,HZ2.out,by omega⟩
     case measure=>rw[hmu,I9 HE5.out.2.1];exact hlt2
    ·have ht:s.take D7=(false,s):=Ca hA
     have HT:Hid (s.peek≠BK/\s.peek≠D7/\s.take BK=(false,s)/\s.take D7=(false,s)):=⟨hN,hA,htN,ht⟩;clear hN hA htN ht;go_wp2_with fail;refine(Cr A s BK wr HE.out.2.1 HT.out.1).mono ?_;rintro _ w2' ⟨rfl,hw2'⟩;subst hw2';go_wp2_with fail;refine(Cr A s D7 _ HE.out.2.1 HT.out.2.1).mono ?_;rintro _ w3 ⟨rfl,hw3⟩;subst hw3;have HE3:Hid _:=HE;clear HE;have HZ2:Hid (CW one f' (.node 4 [] q (one s).1) (one s).2=R):=HZ.out false s (by rw[HT.out.2.2.1]) (by rw[HT.out.2.2.1];simp only;rw[HT.out.2.2.2];rfl)
     have hlt2:(one s).2.nu<s.nu:=by
      exact(HN.out s).2 hne
     clear HZ;go_wp2_with fail;refine(HO.out A s _ HE3.out.2.1).mono ?_;rintro _ w4 ⟨p4,rfl,hq4,ha4,hg4⟩;have HE4:Hid (RE A w p q (one s).2 w4):=RE.to HE3.out ha4 hg4;have HQ4:Hid (QIs A w4 p4 (one s).1):=hq4;clear hq4 ha4 hg4 HE3;obtain⟨q4,hq4⟩:∃q,(one s).1=q:=⟨_,rfl⟩;obtain⟨s4,hs4⟩:∃t,(one s).2=t:=⟨_,rfl⟩;rw[hq4]at HQ4 HZ2;rw[hs4]at HE4 HZ2 hlt2;clear hq4 hs4;have hA4:A<w4.heap.size:=HE4.out.2.1.2.2.2.2.1
     have HE5:Hid (RE A w (some ⟨w4.heap.size,0,none⟩) (.node 4 [] q q4) s4 (w4.alloc (.cells #[.int .i64 4,.slice none 0 0,.pointer p,.pointer p4] 90))):=
      ⟨QIs.box hA4 4 _ p p4 [] q q4 (DA A w4) HE4.out.1 HQ4.out,HE4.out.2.1.below ((Below.refl _ _).alloc (Nat.le_refl _) _),HE4.out.2.2.trans (Ac ((Below.refl _ _).alloc (Nat.le_refl _) _) _)⟩
     clear HE4 HQ4;go_wp2_with fail;refine(E5 A s4 _ HE5.out.2.1).mono ?_;rintro _ w6 ⟨rfl,hw6⟩;subst hw6;go_wp2;go_roundw
     case rel=>exact⟨_,_,s4,f',rfl,rfl,HE5,HZ2.out,by omega⟩
     case measure=>rw[hmu,I9 HE5.out.2.1];exact hlt2
  ·have e:(q,s)=R:=by
    rw[<-hz.out.1]
    cases f with
    |zero=>rfl
    |succ f=>rw[CW,if_neg hg]
   have hg':Jh s.peek=false:=by simpa using hg
   rw[Oe]at hg';subst e;have HE':Hid (RE A w p q s wr):=HE;clear hz hg HE;obtain⟨b0,e0⟩:∃b,(s.peek.toList == [])=b:=⟨_,rfl⟩;obtain⟨b1,e1⟩:∃b,(s.peek.toList == [41])=b:=⟨_,rfl⟩;obtain⟨b2,e2⟩:∃b,(s.peek.toList == [79,82])=b:=⟨_,rfl⟩;rw[e0,e1,e2]at hg'
   cases b0<;>cases b1<;>cases b2<;>first
    |(exfalso;revert hg';decide)
    |(clear hg'
      go_wp2;go_ret;exact⟨p,rfl,HE'.out.1,HE'.out.2.1,HE'.out.2.2⟩)
theorem QY (one:Rst->Qy×Rst) (d:Int) (hO:Fx 39 (Dz one) d) (hn:∀s,(one s).2.nu<=s.nu):Fx 13 (EH one) d:=by
 intro A s w h;have HO:Hid (Fx 39 (Dz one) d):=hO;have HN:Hid (∀s,(Dz one s).2.nu<=s.nu):=fun s=>Nat.le_trans (Jp hn s) (hn s);have H:Hid (Av A s w):=h;clear hO hn h;obtain⟨R,hR⟩:∃R,EH one s=R:=⟨_,rfl⟩;have HR:Hid (El (Dz one) (Dz one s).2.nu (Dz one s).1 (Dz one s).2=R):=hR;rw[hR];clear hR;obtain⟨all,hall⟩:∃g,Dz one=g:=⟨_,rfl⟩;rw[hall]at HO HN HR;clear hall;go_enter Tryz.func13,Tryz.ntmps13;go_wp2_with fail;refine(HO.out A s w H.out).mono ?_;rintro _ w1 ⟨p1,rfl,hq1,ha1,hg1⟩;have HE:Hid (RE A w p1 (all s).1 (all s).2 w1):=⟨hq1,ha1,hg1⟩;clear hq1 ha1 hg1 H;obtain⟨q1,hq1⟩:∃q,(all s).1=q:=⟨_,rfl⟩;obtain⟨s1,hs1⟩:∃t,(all s).2=t:=⟨_,rfl⟩;rw[hq1,hs1]at HE HR;clear hq1 hs1;go_wp2;go_loopw [5] (fun v wr=>∃(p:Option Addr) (q:Qy) (s:Rst) (f:Nat),v= .pointer p/\Hid (RE A w p q s wr)/\Hid (El all f q s=R/\s.nu<=f)) (fun _ wr=>nuW wr A)
 case atStart=>exact⟨p1,q1,s1,s1.nu,rfl,HE,HR.out,Nat.le_refl _⟩
 case round=>
  clear HE HR;obtain⟨p,q,s,f,rfl,HE,hz⟩:=hrel;have hmu:=I9 HE.out.2.1
  by_cases hg:s.peek=tOr
  ·obtain⟨f',rfl⟩:∃f',f=f'+1:=by
    cases f with
    |zero=>exact absurd (Ms (Nat.le_zero.1 hz.out.2)) (by rw[hg];decide)
    |succ f=>exact⟨f,rfl⟩
   obtain⟨s2,hs2⟩:∃t,(⟨s.l.tail,s.bad⟩:Rst)=t:=⟨_,rfl⟩;have ht:s.take tOr=(true,s2):=by rw[AH hg,hs2]
   have hnu2:s2.nu<s.nu:=by have:=Da hg (by decide);rw[ht]at this;exact this
   have HZ2:Hid (El all f' (.node 5 [] q (all s2).1) (all s2).2=R):=by
    have h0:=hz.out.1;rw[El,ht]at h0;exact h0
   have hnf:=hz.out.2;have HT:Hid (s.peek=tOr/\(⟨s.l.tail,s.bad⟩:Rst)=s2):=⟨hg,hs2⟩;clear hz hg ht hs2;go_wp2_with fail;refine(AK A s tOr wr HE.out.2.1 HT.out.1 (by decide)).mono ?_;rintro _ w3 ⟨rfl,ha3,hg3⟩;rw[HT.out.2]at ha3;have HE3:Hid (RE A w p q s2 w3):=RE.to HE.out ha3 hg3;clear ha3 hg3 HE;have hlt2:(all s2).2.nu<s.nu:=by have:=HN.out s2;omega
   go_wp2_with fail;refine(HO.out A s2 w3 HE3.out.2.1).mono ?_;rintro _ w4 ⟨p4,rfl,hq4,ha4,hg4⟩;have HE4:Hid (RE A w p q (all s2).2 w4):=RE.to HE3.out ha4 hg4;have HQ4:Hid (QIs A w4 p4 (all s2).1):=hq4;clear hq4 ha4 hg4 HE3;obtain⟨q4,hq4⟩:∃q,(all s2).1=q:=⟨_,rfl⟩;obtain⟨s4,hs4⟩:∃t,(all s2).2=t:=⟨_,rfl⟩;rw[hq4]at HQ4 HZ2;rw[hs4]at HE4 HZ2 hlt2;clear hq4 hs4;have hA4:A<w4.heap.size:=HE4.out.2.1.2.2.2.2.1
   have HE5:Hid (RE A w (some ⟨w4.heap.size,0,none⟩) (.node 5 [] q q4) s4 (w4.alloc (.cells #[.int .i64 5,.slice none 0 0,.pointer p,.pointer p4] 90))):=
    ⟨QIs.box hA4 5 _ p p4 [] q q4 (DA A w4) HE4.out.1 HQ4.out,HE4.out.2.1.below ((Below.refl _ _).alloc (Nat.le_refl _) _),HE4.out.2.2.trans (Ac ((Below.refl _ _).alloc (Nat.le_refl _) _) _)⟩
   clear HE4 HQ4;go_wp2;go_roundw
   case rel=>exact⟨_,_,s4,f',rfl,HE5,HZ2.out,by omega⟩
   case measure=>rw[hmu,I9 HE5.out.2.1];exact hlt2
  ·have e:(q,s)=R:=by
    rw[<-hz.out.1]
    cases f with
    |zero=>rfl
    |succ f=>rw[El,Ca hg];rfl
   subst e;have HG:Hid (s.peek≠tOr):=hg;clear hz hg;go_wp2_with fail;refine(Cr A s tOr wr HE.out.2.1 HG.out).mono ?_;rintro _ w3 ⟨rfl,hw3⟩;subst hw3;go_wp2;go_ret;exact⟨p,rfl,HE.out.1,HE.out.2.1,HE.out.2.2⟩
def GR (A:Nat) (d:Int) (w:World) (r:Qy×Rst):Prop:=Calls Tryz.prog 71 #[.pointer (some ⟨A,0,none⟩),.int .i64 d] w fun e w'=>∃p,e= .returned (.pointer p)/\QIs A w' p r.1/\Av A r.2 w'/\w.grownBy w' (some A)
theorem Ds {A:Nat} {s:Rst} {w:World} (h:Av A s w):RE A w (some ⟨w.heap.size,0,none⟩) Jy s (w.alloc (.cells #[.int .i64 0,.slice none 0 0,.pointer none,.pointer none] 90)):=
 ⟨QIs.box h.2.2.2.2.1 0 _ none none [] .nil .nil (DA A w) rfl rfl,h.below ((Below.refl _ _).alloc (Nat.le_refl _) _),Ac ((Below.refl _ _).alloc (Nat.le_refl _) _) _⟩
set_option maxHeartbeats 2000000
theorem Un (A:Nat) (d:Int) (s:Rst) (w:World) (h:Av A s w) (hd:12<d):GR A d w (Jy,s.fails 4):=by
 show Calls _ _ _ _ _;have H:Hid (Av A s w):=h;have HE:Hid _:=Ds h;clear h;go_enter Tryz.func71,Tryz.ntmps71;go_wp2_with fail;refine(E5 A s w H.out).mono ?_;rintro _ w1 ⟨rfl,hw1⟩;subst hw1;go_wp2_with fail;refine(CN A s 4 _ HE.out.2.1).mono ?_;rintro _ w2 ⟨rfl,ha2,hg2⟩;have HE2:Hid _:=RE.to HE.out ha2 hg2;clear ha2 hg2 HE;go_wp2;go_ret;exact⟨_,rfl,HE2.out.1,HE2.out.2.1,HE2.out.2.2⟩
set_option maxHeartbeats 4000000
theorem Up (A:Nat) (d:Int) (s:Rst) (w:World) (h:Av A s w) (hd:¬12<d) (hp:noOne s.peek=true):GR A d w (Jy,s.fails 3):=by
 show Calls _ _ _ _ _;have H:Hid (Av A s w):=h;have HE:Hid _:=Ds h;clear h;obtain⟨t,ht⟩:∃t,s.peek=t:=⟨_,rfl⟩;have HP:Hid (s.peek=t):=ht;rw[ht]at hp;clear ht
 have hop:(t.toList == [40])=false:=by
  rw[Ff,decide_eq_false_iff_not];intro e;rw[e]at hp;revert hp;decide
 obtain⟨b0,e0⟩:∃b,(t.toList == [])=b:=⟨_,rfl⟩;obtain⟨b1,e1⟩:∃b,(t.toList == [41])=b:=⟨_,rfl⟩;obtain⟨b2,e2⟩:∃b,(t.toList == [42])=b:=⟨_,rfl⟩;obtain⟨b3,e3⟩:∃b,(t.toList == [65,78,68])=b:=⟨_,rfl⟩;obtain⟨b4,e4⟩:∃b,(t.toList == [79,82])=b:=⟨_,rfl⟩;obtain⟨b5,e5⟩:∃b,(t.toList == [78,79,84])=b:=⟨_,rfl⟩;obtain⟨b6,e6⟩:∃b,(t.toList == [78,69,65,82])=b:=⟨_,rfl⟩
 have hor:(b0 || b1 || b2 || b3 || b4 || b5 || b6)=true:=by
  rw[<-e0,<-e1,<-e2,<-e3,<-e4,<-e5,<-e6,Ff,Ff,Ff,Ff,Ff,Ff,Ff];exact hp
 clear hp
 have key:(b0=true/\True)\/((b0=false/\b1=true)/\True)\/((b0=false/\b1=false/\b2=true)/\True)\/((b0=false/\b1=false/\b2=false/\b3=true)/\True)\/((b0=false/\b1=false/\b2=false/\b3=false/\b4=true)/\True)\/((b0=false/\b1=false/\b2=false/\b3=false/\b4=false/\b5=true)/\True)\/((b0=false/\b1=false/\b2=false/\b3=false/\b4=false/\b5=false/\b6=true)/\True):=by
  revert hor
  cases b0<;>cases b1<;>cases b2<;>cases b3<;>cases b4<;>cases b5<;>cases b6<;>simp
 clear hor;rcases key with⟨rfl,_⟩|⟨⟨rfl,rfl⟩,_⟩|⟨⟨rfl,rfl,rfl⟩,_⟩|⟨⟨rfl,rfl,rfl,rfl⟩,_⟩|⟨⟨rfl,rfl,rfl,rfl,rfl⟩,_⟩|⟨⟨rfl,rfl,rfl,rfl,rfl,rfl⟩,_⟩|⟨⟨rfl,rfl,rfl,rfl,rfl,rfl,rfl⟩,_⟩
 all_goals
  go_enter Tryz.func71,Tryz.ntmps71;go_wp2_with fail;refine(Cd t A s w H.out HP.out).mono ?_;rintro _ w1 ⟨rfl,hw1⟩;subst hw1;go_wp2_with fail;refine(CN A s 3 _ HE.out.2.1).mono ?_;rintro _ w2 ⟨rfl,ha2,hg2⟩;have HE2:Hid _:=RE.to HE.out ha2 hg2;clear ha2 hg2 HE;go_wp2;go_ret;exact⟨_,rfl,HE2.out.1,HE2.out.2.1,HE2.out.2.2⟩
theorem Uo (any:Rst->Qy×Rst) (A:Nat) (d:Int) (s:Rst) (w:World) (h:Av A s w) (hd0:0<=d) (hd:d<=12) (hp:s.peek=B9) (hO:Fx 13 any (d+1)) (R:Qy×Rst) (hR:R=((any (s.take B9).2).1,if((any (s.take B9).2).2.take AA).1 then((any (s.take B9).2).2.take AA).2 else((any (s.take B9).2).2.take AA).2.fails 3)):GR A d w R:=by
 show Calls _ _ _ _ _;have H:Hid (Av A s w):=h;have HO:Hid (Fx 13 any (d+1)):=hO;have HE:Hid _:=Ds h;have d1:¬(12:Int)<d:=by omega
 clear h hO;obtain⟨t,ht⟩:∃t,s.peek=t:=⟨_,rfl⟩;have HP:Hid (s.peek=t/\s.peek=B9):=⟨ht,hp⟩;have d2:(t.toList == [40])=true:=by rw[Ff,<-ht,hp];decide
 rw[AH hp]at hR;clear ht hp;obtain⟨s1,hs1⟩:∃t,(⟨s.l.tail,s.bad⟩:Rst)=t:=⟨_,rfl⟩;simp only[hs1]at hR;have HS1:Hid ((⟨s.l.tail,s.bad⟩:Rst)=s1):=hs1;clear hs1;obtain⟨q,hq⟩:∃q,(any s1).1=q:=⟨_,rfl⟩;obtain⟨s2,hs2⟩:∃t,(any s1).2=t:=⟨_,rfl⟩;simp only[hq,hs2]at hR;have HQ:Hid ((any s1).1=q/\(any s1).2=s2):=⟨hq,hs2⟩;clear hq hs2
 by_cases hsh:s2.peek=AA
 ·have HR:Hid (R=(q,⟨s2.l.tail,s2.bad⟩)):=by show _=_;rw[hR,AH hsh];rfl
  have HSh:Hid (s2.peek=AA):=hsh;clear hR hsh;go_enter Tryz.func71,Tryz.ntmps71;go_wp2_with fail;refine(Cd t A s w H.out HP.out.1).mono ?_;rintro _ w1 ⟨rfl,hw1⟩;subst hw1;go_wp2_with fail;refine(AK A s B9 _ HE.out.2.1 HP.out.2 (by decide)).mono ?_;rintro _ w2 ⟨rfl,ha2,hg2⟩;rw[HS1.out]at ha2;have HE2:Hid _:=RE.to HE.out ha2 hg2;clear ha2 hg2 HE H;go_wp2_with fail;refine(HO.out A s1 w2 HE2.out.2.1).mono ?_;rintro _ w3 ⟨p3,rfl,hq3,ha3,hg3⟩;rw[HQ.out.1]at hq3;rw[HQ.out.2]at ha3;have HE3:Hid _:=RE.to HE2.out ha3 hg3;have HQ3:Hid (QIs A w3 p3 q):=hq3;clear hq3 ha3 hg3 HE2;go_wp2_with fail;refine(AK A s2 AA _ HE3.out.2.1 HSh.out (by decide)).mono ?_;rintro _ w4 ⟨rfl,ha4,hg4⟩;have HE4:Hid _:=RE.to HE3.out ha4 hg4;have HQ4:Hid (QIs A w4 p3 q):=QIs.grown hg4 q HQ3.out;clear ha4 hg4 HE3 HQ3;go_wp2;go_ret;rw[HR.out];exact⟨_,rfl,HQ4.out,HE4.out.2.1,HE4.out.2.2⟩
 ·have HR:Hid (R=(q,s2.fails 3)):=by show _=_;rw[hR,Ca hsh];rfl
  have HSh:Hid (s2.peek≠AA):=hsh;clear hR hsh;go_enter Tryz.func71,Tryz.ntmps71;go_wp2_with fail;refine(Cd t A s w H.out HP.out.1).mono ?_;rintro _ w1 ⟨rfl,hw1⟩;subst hw1;go_wp2_with fail;refine(AK A s B9 _ HE.out.2.1 HP.out.2 (by decide)).mono ?_;rintro _ w2 ⟨rfl,ha2,hg2⟩;rw[HS1.out]at ha2;have HE2:Hid _:=RE.to HE.out ha2 hg2;clear ha2 hg2 HE H;go_wp2_with fail;refine(HO.out A s1 w2 HE2.out.2.1).mono ?_;rintro _ w3 ⟨p3,rfl,hq3,ha3,hg3⟩;rw[HQ.out.1]at hq3;rw[HQ.out.2]at ha3;have HE3:Hid _:=RE.to HE2.out ha3 hg3;have HQ3:Hid (QIs A w3 p3 q):=hq3;clear hq3 ha3 hg3 HE2;go_wp2_with fail;refine(Cr A s2 AA _ HE3.out.2.1 HSh.out).mono ?_;rintro _ w4 ⟨rfl,hw4⟩;subst hw4;go_wp2_with fail;refine(CN A s2 3 _ HE3.out.2.1).mono ?_;rintro _ w5 ⟨rfl,ha5,hg5⟩;have HE5:Hid _:=RE.to HE3.out ha5 hg5;have HQ5:Hid (QIs A w5 p3 q):=QIs.grown hg5 q HQ3.out;clear ha5 hg5 HE3 HQ3;go_wp2;go_ret;rw[HR.out];exact⟨_,rfl,HQ5.out,HE5.out.2.1,HE5.out.2.2⟩
theorem JV {t:ByteArray} (hp:t≠B9) (hn:noOne t=false):((t.toList == [40])=false/\(t.toList == [])=false/\(t.toList == [41])=false/\(t.toList == [42])=false)/\(t.toList == [65,78,68])=false/\(t.toList == [79,82])=false/\(t.toList == [78,79,84])=false/\(t.toList == [78,69,65,82])=false:=by
 simp only[noOne,Bool.or_eq_false_iff]at hn;obtain⟨⟨⟨⟨⟨⟨h0,h1⟩,h2⟩,h3⟩,h4⟩,h5⟩,h6⟩:=hn;refine⟨⟨?_,?_,?_,?_⟩,?_,?_,?_,?_⟩
 ·rw[Ff,decide_eq_false_iff_not];exact hp
 all_goals (rw[Ff];assumption)
theorem Gg {t:ByteArray} (h:t≠Ax):∃h0:0<t.size,BA t=t[0]:=by
 cases hl:t.data.toList with
 |nil=>
  exfalso;apply h;apply Dy;exact hl
 |cons c r=>
  have hs:0<t.size:=by rw[<-AF,hl];simp
  refine⟨hs,?_⟩;have h2:=CZ t 0 hs;rw[List.drop_zero]at h2;rw[BA,h2];rfl
theorem G0 {A:Nat} {s:Rst} {w:World} (h:Av A s w):s.peek.size<=1000:=by
 by_cases hp:s.peek=Ax
 ·rw[hp];decide
 ·obtain⟨_,r,hl⟩:=CL hp
  exact h.2.2.2.2.2 s.peek (by rw[hl];simp)
theorem Vc (t:ByteArray):(t.extract 1 t.size).data.toList=t.data.toList.drop 1:=by
 rw[Ch,List.take_of_length_le (by rw[AF];omega)]
theorem Ie {A:Nat} {w0 w:World} {s:Rst} {p:Option Addr} {q:Qy} (h:RE A w0 p q s w) (k:Int) (a:Option Addr) (n c:Nat) (ws:List ByteArray) (hw:GI A w (.slice a n c) ws):
  RE A w0 (some ⟨w.heap.size,0,none⟩) (.node k ws .nil .nil) s (w.alloc (.cells #[.int .i64 k,.slice a n c,.pointer none,.pointer none] 90)):=
 ⟨QIs.box h.2.1.2.2.2.2.1 k _ none none ws .nil .nil hw rfl rfl,h.2.1.below ((Below.refl _ _).alloc (Nat.le_refl _) _),h.2.2.trans (Ac ((Below.refl _ _).alloc (Nat.le_refl _) _) _)⟩
theorem RQ (A:Nat) (d:Int) (s:Rst) (t:ByteArray) (w:World) (h:Av A s w) (hd:¬12<d) (ht:s.peek=t) (hp:t≠B9) (hn:noOne t=false) (hq:BA t=34) (R:Qy×Rst) (hR:R=(.node 1 (Ad (t.data.toList.drop 1)) .nil .nil,if Ad (t.data.toList.drop 1)=[]then(s.take t).2.fails 3 else(s.take t).2)):GR A d w R:=by
 show Calls _ _ _ _ _;have H:Hid (Av A s w):=h;have HE:Hid _:=Ds h;have hsz:t.size<=1000:=by rw[<-ht];exact G0 h
 clear h;obtain⟨⟨d0,d1,d2,d3⟩,d4,d5,d6,d7⟩:=JV hp hn;have hne:t≠Ax:=fun e=>by rw[e]at hn;exact absurd hn (by decide)
 obtain⟨hpos,hf⟩:=Gg hne;rw[AH ht]at hR;have HP:Hid (s.peek=t/\t≠Ax):=⟨ht,hne⟩;have hx:t[0]=34:=by rw[<-hf];exact hq
 clear ht hp hn hq hf hne;have hx34:(t[0]).toNat=34:=by rw[hx];rfl
 have hi0:(0:Int)<(t.size:Int):=by omega
 obtain⟨s1,hs1⟩:∃t,(⟨s.l.tail,s.bad⟩:Rst)=t:=⟨_,rfl⟩;have HS1:Hid ((⟨s.l.tail,s.bad⟩:Rst)=s1):=hs1;simp only[hs1]at hR;obtain⟨ws,hws⟩:∃ws,Ad (t.data.toList.drop 1)=ws:=⟨_,rfl⟩;have HW:Hid (Ad (t.extract 1 t.size).data.toList=ws):=by show _=_;rw[Vc];exact hws
 have hwl:ws.length<=1001:=by rw[<-hws];have:=CK (t.data.toList.drop 1);simp only[List.length_drop]at this;rw[AF]at this;omega
 simp only[hws]at hR;clear hs1 hws hx
 by_cases h0:ws=[]
 ·have HR:Hid (R=(.node 1 ws .nil .nil,s1.fails 3)):=by show _=_;rw[hR,if_pos h0]
  have HL0:Hid (ws.length=0):=by show _=_;rw[h0];rfl
  clear hR h0;go_enter Tryz.func71,Tryz.ntmps71;go_wp2_with fail;refine(Cd t A s w H.out HP.out.1).mono ?_;rintro _ w1 ⟨rfl,hw1⟩;subst hw1;go_wp2_with fail;refine(AK A s t _ HE.out.2.1 HP.out.1 HP.out.2).mono ?_;rintro _ w2 ⟨rfl,ha2,hg2⟩;rw[HS1.out]at ha2;have HE2:Hid _:=RE.to HE.out ha2 hg2;clear ha2 hg2 HE H;go_wp2_with fail;refine(Fh (t.extract 1 t.size) w2 (by simp;omega)).mono ?_;rintro _ w3 ⟨v3,rfl,ho3,hb3⟩;rw[HW.out]at ho3;have HE3:Hid _:=RE.to HE2.out (HE2.out.2.1.below hb3) (Ac hb3 _);have hr3:=FT ho3 HE2.out.2.1.2.2.2.2.1 (by omega)
  obtain⟨a,cap,rfl⟩:∃a cap,v3= .slice a ws.length cap:=by
   obtain⟨a,c,e,_⟩:=hr3;exact⟨a,c,e⟩
  have HE4:Hid _:=Ie HE3.out 1 a ws.length cap ws hr3;clear ho3 hb3 hr3 HE2 HE3;rw[HL0.out]at HE4 ⊢;go_wp2_with fail;refine(CN A s1 3 _ HE4.out.2.1).mono ?_;rintro _ w5 ⟨rfl,ha5,hg5⟩;have HE5:Hid _:=RE.to HE4.out ha5 hg5;clear ha5 hg5 HE4;go_wp2;go_ret;rw[HR.out];exact⟨_,rfl,HE5.out.1,HE5.out.2.1,HE5.out.2.2⟩
 ·have HR:Hid (R=(.node 1 ws .nil .nil,s1)):=by show _=_;rw[hR,if_neg h0]
  have hl0:ws.length≠0:=fun e=>h0 (List.length_eq_zero_iff.1 e);clear hR h0;go_enter Tryz.func71,Tryz.ntmps71;go_wp2_with fail;refine(Cd t A s w H.out HP.out.1).mono ?_;rintro _ w1 ⟨rfl,hw1⟩;subst hw1;go_wp2_with fail;refine(AK A s t _ HE.out.2.1 HP.out.1 HP.out.2).mono ?_;rintro _ w2 ⟨rfl,ha2,hg2⟩;rw[HS1.out]at ha2;have HE2:Hid _:=RE.to HE.out ha2 hg2;clear ha2 hg2 HE H;go_wp2_with fail;refine(Fh (t.extract 1 t.size) w2 (by simp;omega)).mono ?_;rintro _ w3 ⟨v3,rfl,ho3,hb3⟩;rw[HW.out]at ho3;have HE3:Hid _:=RE.to HE2.out (HE2.out.2.1.below hb3) (Ac hb3 _);have hr3:=FT ho3 HE2.out.2.1.2.2.2.2.1 (by omega)
  obtain⟨a,cap,rfl⟩:∃a cap,v3= .slice a ws.length cap:=by
   obtain⟨a,c,e,_⟩:=hr3;exact⟨a,c,e⟩
  have HE4:Hid _:=Ie HE3.out 1 a ws.length cap ws hr3;clear ho3 hb3 hr3 HE2 HE3;obtain⟨n,hn⟩:∃n,ws.length=n:=⟨_,rfl⟩;rw[hn]at HE4 hl0 hwl ⊢;have dn:((n:Int) == 0)=false:=by simp;omega
  go_wp2;go_ret;rw[HR.out];exact⟨_,rfl,HE4.out.1,HE4.out.2.1,HE4.out.2.2⟩
theorem Ic {A:Nat} {w0 w:World} {s:Rst} (ha:Av A s w) (hg:w0.grownBy w (some A)) (k:Int) (x:ByteArray):
  RE A w0 (some ⟨w.heap.size+1,0,none⟩) (.node k [x] .nil .nil) s ((w.alloc (.cells #[.string x] 9)).alloc (.cells #[.int .i64 k,.slice (some ⟨w.heap.size,0,none⟩) 1 1,.pointer none,.pointer none] 90)):=by
 have h5:RE A w0 none .nil s (w.alloc (.cells #[.string x] 9)):=⟨rfl,ha.below ((Below.refl _ _).alloc (Nat.le_refl _) _),hg.trans (Ac ((Below.refl _ _).alloc (Nat.le_refl _) _) _)⟩;have h6:=Ie h5 k _ _ _ [x] (Mh x ha.2.2.2.2.1);rw[show(w.alloc (.cells #[.string x] 9)).heap.size=w.heap.size+1 by simp]at h6;exact h6
theorem O5 {s:Rst} {x:ByteArray} {l:List UInt8} {k:Nat} (h:k<l.length):s.begins x (l.drop k)=(if !EI l[k] || decide (12<x.size)then s.fails 3 else s).begins x (l.drop (k+1)):=by
 rw[List.drop_eq_getElem_cons h,Rst.begins]
theorem OP (t:ByteArray) (k:Nat) (h:k<(A6 t).size):(A6 t)[k]=(Aw t.data.toList)[k]'(by rw[D8,<-Dk];exact h):=by
 show(A6 t).data[k]=_;simp[A6]
theorem Um (A:Nat) (d:Int) (s:Rst) (t:ByteArray) (w:World) (h:Av A s w) (hd:¬12<d) (ht:s.peek=t) (hp:t≠B9) (hn:noOne t=false) (hq:BA t≠34) (hst:(s.take t).2.peek=Ao) (R:Qy×Rst) (hR:R=(.node 2 [A6 t] .nil .nil,((s.take t).2.take Ao).2.begins t (Aw t.data.toList))):GR A d w R:=by
 show Calls _ _ _ _ _;have H:Hid (Av A s w):=h;have HE:Hid _:=Ds h;have hsz:t.size<=1000:=by rw[<-ht];exact G0 h
 clear h;obtain⟨⟨d0,d1,d2,d3⟩,d4,d5,d6,d7⟩:=JV hp hn;have hne:t≠Ax:=fun e=>by rw[e]at hn;exact absurd hn (by decide)
 obtain⟨hpos,hf⟩:=Gg hne;obtain⟨s1,hs1⟩:∃u,(s.take t).2=u:=⟨_,rfl⟩;rw[hs1]at hR hst;obtain⟨s2,hs2⟩:∃u,(s1.take Ao).2=u:=⟨_,rfl⟩;rw[hs2]at hR;rw[AH ht]at hs1;rw[AH hst]at hs2;have HP:Hid (s.peek=t/\t≠Ax):=⟨ht,hne⟩;obtain⟨x0,hx0⟩:∃x,(t[0]).toNat=x:=⟨_,rfl⟩
 have hx34:((x0:Int) == 34)=false:=by
  have:x0≠34:=fun e=>hq (by rw[hf,<-UInt8.toNat_inj,hx0,e];rfl);simp;omega
 clear ht hp hn hq hf hne;have hi0:(0:Int)<(t.size:Int):=by omega
 have HS1:Hid ((⟨s.l.tail,s.bad⟩:Rst)=s1/\s1.peek=Ao/\(⟨s1.l.tail,s1.bad⟩:Rst)=s2):=⟨hs1,hst,hs2⟩;obtain⟨F,hF⟩:∃F,s2.begins t (Aw t.data.toList)=F:=⟨_,rfl⟩;have HF:Hid (s2.begins t ((Aw t.data.toList).drop 0)=F):=hF;rw[hF]at hR;have HR:Hid (R=(.node 2 [A6 t] .nil .nil,F)):=hR;have hus:=Dk t;have hsl:=D8 t;clear hs1 hs2 hst hF hR;go_enter Tryz.func71,Tryz.ntmps71;go_wp2_with fail;refine(Cd t A s w H.out HP.out.1).mono ?_;rintro _ w1 ⟨rfl,hw1⟩;subst hw1;go_wp2_with fail;refine(AK A s t _ HE.out.2.1 HP.out.1 HP.out.2).mono ?_;rintro _ w2 ⟨rfl,ha2,hg2⟩;rw[HS1.out.1]at ha2;have HE2:Hid _:=RE.to HE.out ha2 hg2;clear ha2 hg2 HE H;go_wp2_with fail;refine(AK A s1 Ao _ HE2.out.2.1 HS1.out.2.1 (by decide)).mono ?_;rintro _ w3 ⟨rfl,ha3,hg3⟩;rw[HS1.out.2.2]at ha3;have HE3:Hid _:=RE.to HE2.out ha3 hg3;clear ha3 hg3 HE2;have HG3:Hid (Av A s2 w3/\w1.grownBy w3 (some A)):=⟨HE3.out.2.1,HE3.out.2.2⟩;clear HE3;go_wp2;go_loopw [21] (fun v wr=>∃(k:Nat) (s':Rst),k<=t.size/\v= .int .i64 k/\Hid (Av A s' wr/\w1.grownBy wr (some A))/\Hid (s'.begins t ((Aw t.data.toList).drop k)=F)) (fun v _=>t.size-(intOf v).toNat)
 case atStart=>exact⟨0,s2,Nat.zero_le _,rfl,HG3,HF⟩
 case round=>
  clear HG3 HF;obtain⟨k,s',hk,rfl,HG,hz⟩:=hrel
  by_cases hlt:k<t.size
  ·have hlt':(k:Int)<(t.size:Int):=by omega
   have hku:k<(A6 t).size:=by omega
   have hkl:k<(Aw t.data.toList).length:=by omega
   have HZ:Hid (∀b:Bool,(!EI (Aw t.data.toList)[k] || decide (12<t.size))=b->(if b then s'.fails 3 else s').begins t ((Aw t.data.toList).drop (k+1))=F):=by
    intro b hb;rw[<-hz.out,O5 hkl,hb]
   clear hz;obtain⟨c,hc⟩:∃c,(Aw t.data.toList)[k]=c:=⟨_,rfl⟩;rw[hc]at HZ;obtain⟨u,hu,huk,hux⟩:∃u:ByteArray,A6 t=u/\∃h:k<u.size,u[k].toNat=c.toNat:=⟨A6 t,rfl,hku,by rw[OP t k hku,hc]⟩;have HU:Hid (A6 t=u):=hu;obtain⟨x,hx⟩:∃x,c.toNat=x:=⟨_,rfl⟩;rw[hx]at hux;have hku':(k:Int)<(u.size:Int):=by omega
   clear hu hc;obtain⟨a1,e1⟩:∃b,decide ((97:Int)<=(x:Int))=b:=⟨_,rfl⟩;obtain⟨a2,e2⟩:∃b,decide ((x:Int)<=122)=b:=⟨_,rfl⟩;obtain⟨a3,e3⟩:∃b,decide ((48:Int)<=(x:Int))=b:=⟨_,rfl⟩;obtain⟨a4,e4⟩:∃b,decide ((x:Int)<=57)=b:=⟨_,rfl⟩;obtain⟨a5,e5⟩:∃b,decide ((12:Int)<(t.size:Int))=b:=⟨_,rfl⟩
   have HB:Hid ((if !(a1 && a2 || a3 && a4) || a5 then s'.fails 3 else s').begins t ((Aw t.data.toList).drop (k+1))=F):=by
    refine HZ.out _ ?_;rw[<-e1,<-e2,<-e3,<-e4,<-e5,EI,hx];have g1:decide (97<=x)=decide ((97:Int)<=(x:Int)):=decide_eq_decide.2 (by omega);have g2:decide (x<=122)=decide ((x:Int)<=122):=decide_eq_decide.2 (by omega);have g3:decide (48<=x)=decide ((48:Int)<=(x:Int)):=decide_eq_decide.2 (by omega);have g4:decide (x<=57)=decide ((x:Int)<=57):=decide_eq_decide.2 (by omega);have g5:decide (12<t.size)=decide ((12:Int)<(t.size:Int)):=decide_eq_decide.2 (by omega);rw[g1,g2,g3,g4,g5]
   clear HZ;go_wp2_with fail;refine(F7 t wr (by omega)).mono ?_;rintro _ w4 ⟨rfl,hb4⟩;rw[HU.out];have HG4:Hid (Av A s' w4/\w1.grownBy w4 (some A)):=⟨HG.out.1.below hb4,HG.out.2.trans (Ac hb4 _)⟩;clear hb4 HG;obtain⟨b,hb⟩:∃b,(!(a1 && a2 || a3 && a4) || a5)=b:=⟨_,rfl⟩;rw[hb]at HB
   cases a1<;>cases a2<;>cases a3<;>cases a4<;>cases a5<;>cases b<;>first
    |(exfalso;revert hb;decide)
    |(clear hb
      have HB2:Hid (s'.begins t ((Aw t.data.toList).drop (k+1))=F):=HB.out;go_wp2;go_roundw
      case rel=>exact⟨k+1,s',by omega,by go_num,HG4,HB2⟩
      case measure=>simp[intOf];omega)
    |(clear hb
      have HB2:Hid ((s'.fails 3).begins t ((Aw t.data.toList).drop (k+1))=F):=HB.out;go_wp2_with fail;refine(CN A s' 3 _ HG4.out.1).mono ?_;rintro _ w5 ⟨rfl,ha5,hg5⟩;have HG5:Hid (Av A (s'.fails 3) w5/\w1.grownBy w5 (some A)):=⟨ha5,HG4.out.2.trans hg5⟩;clear ha5 hg5 HG4;go_wp2;go_roundw
      case rel=>exact⟨k+1,s'.fails 3,by omega,by go_num,HG5,HB2⟩
      case measure=>simp[intOf];omega)
  ·have e:s'=F:=by
    have h:=hz.out;rw[List.drop_eq_nil_of_le (by omega)]at h;exact h
   subst e;go_wp2_with fail;refine(F7 t wr (by omega)).mono ?_;rintro _ w4 ⟨rfl,hb4⟩;have HG4:Hid (Av A s' w4/\w1.grownBy w4 (some A)):=⟨HG.out.1.below hb4,HG.out.2.trans (Ac hb4 _)⟩;clear hb4 HG;obtain⟨u,hu⟩:∃u,A6 t=u:=⟨_,rfl⟩;rw[hu]at HR ⊢;clear hu;have HE6:Hid _:=Ic HG4.out.1 HG4.out.2 2 u;clear HG4;go_wp2;go_ret;rw[HR.out];exact⟨_,rfl,HE6.out.1,HE6.out.2.1,HE6.out.2.2⟩
set_option maxHeartbeats 1000000
theorem QG (s:ByteArray) (c:Int) (w:World):Calls Tryz.prog 70 #[.string s,.int .u8 c] w fun e w'=>e= .returned (.int .i64 (Lib.indexByte s.data.toList c.toNat.toUInt8))/\w'=w:=by
 go_enter Tryz.func70,Tryz.ntmps70;go_wp2;rw[run_callFunc_extern Tryz.func107 (by kernel_rfl) (by kernel_rfl) (by kernel_rfl) (e:=Extern.BytealgIndexByte.indexByte) (by kernel_rfl),Lib.run_indexByteString];simp only[Result.andThen];rw[Oper.upon_value];go_wp2;go_ret;exact⟨rfl,rfl⟩
theorem GT (s:ByteArray) (c:Int) (w:World):Calls Tryz.prog 38 #[.string s,.int .u8 c] w fun e w'=>e= .returned (.int .i64 (Lib.indexByte s.data.toList c.toNat.toUInt8))/\w'=w:=by
 go_enter Tryz.func38,Tryz.ntmps38
 go_wp2_with (go_at_call 70;refine(QG _ _ _).mono ?_;rintro e w' ⟨rfl,rfl⟩)
 go_ret;exact⟨rfl,rfl⟩
theorem VT:∀n:Fin 256,decide (0<=Lib.indexByte [40,41,42,34] n.val.toUInt8)=Dd n.val.toUInt8:=by decide+kernel
theorem UM (x:Nat) (hx:x<256) (b:Bool) (hb:Dd x.toUInt8=b) (w:World):Calls Tryz.prog 38 #[.string ⟨#[40,41,42,34]⟩,.int .u8 (x:Int)] w fun e w'=>∃n:Int,e= .returned (.int .i64 n)/\decide (0<=n)=b/\w'=w:=by
 refine(GT ⟨#[40,41,42,34]⟩ (x:Int) w).mono ?_;rintro e w' ⟨rfl,rfl⟩;exact⟨_,rfl,by rw[<-hb];exact VT ⟨x,hx⟩,rfl⟩
structure Run (A:Nat) (d:Int) (s:Rst) (t:ByteArray) (w:World) (s1:Rst):Prop where
 ask:Av A s w
 deep:¬12<d
 peek:s.peek=t
 ne:t≠Ax
 d0:(t.toList == [40])=false
 d1:(t.toList == [])=false
 d2:(t.toList == [41])=false
 d3:(t.toList == [42])=false
 d4:(t.toList == [65,78,68])=false
 d5:(t.toList == [79,82])=false
 d6:(t.toList == [78,79,84])=false
 d7:(t.toList == [78,69,65,82])=false
 pos:0<t.size
 first:((t[0]).toNat:Int)≠34
 size:t.size<=1000
 next:(⟨s.l.tail,s.bad⟩:Rst)=s1
 star:s1.peek≠Ao
theorem X7 {A:Nat} {d:Int} {s:Rst} {t:ByteArray} {w:World} (h:Av A s w) (hd:¬12<d) (ht:s.peek=t) (hp:t≠B9) (hn:noOne t=false) (hq:BA t≠34) (hst:(s.take t).2.peek≠Ao):Run A d s t w (s.take t).2:=by
 obtain⟨⟨d0,d1,d2,d3⟩,d4,d5,d6,d7⟩:=JV hp hn;have hne:t≠Ax:=fun e=>by rw[e]at hn;exact absurd hn (by decide)
 obtain⟨hpos,hf⟩:=Gg hne;refine⟨h,hd,ht,hne,d0,d1,d2,d3,d4,d5,d6,d7,hpos,?_,by rw[<-ht];exact G0 h,by rw[AH ht],hst⟩;intro e;refine hq ?_;rw[hf,<-UInt8.toNat_inj];have:t[0].toNat=34:=by omega
 rw[this];rfl
set_option maxHeartbeats 4000000
theorem Ul (A:Nat) (d:Int) (s:Rst) (t:ByteArray) (w:World) (s1:Rst) (h:Run A d s t w s1) (hno:(s1.plain t).2.peek≠At):GR A d w (.node 1 [(s1.plain t).1] .nil .nil,(s1.plain t).2):=by
 show Calls _ _ _ _ _;obtain⟨ha,hd,ht,hne,d0,d1,d2,d3,d4,d5,d6,d7,hpos,hf,hsz,hnx,hst⟩:=h;have H:Hid (Av A s w):=ha;have HE:Hid _:=Ds ha;have HP:Hid (s.peek=t/\t≠Ax/\(⟨s.l.tail,s.bad⟩:Rst)=s1/\s1.peek≠Ao):=⟨ht,hne,hnx,hst⟩;obtain⟨x0,hx0⟩:∃x,(t[0]).toNat=x:=⟨_,rfl⟩;rw[hx0]at hf;have hx34:((x0:Int) == 34)=false:=by simpa using hf
 have hi0:(0:Int)<(t.size:Int):=by omega
 clear ha ht hne hnx hst hf;obtain⟨y,hy⟩:∃y,(s1.plain t).1=y:=⟨_,rfl⟩;obtain⟨s2,hs2⟩:∃y,(s1.plain t).2=y:=⟨_,rfl⟩;have HY:Hid ((s1.plain t).1=y/\(s1.plain t).2=s2):=⟨hy,hs2⟩;rw[hs2]at hno;rw[hy,hs2];have HNo:Hid (s2.peek≠At):=hno;clear hy hs2 hno;go_enter Tryz.func71,Tryz.ntmps71;go_wp2_with fail;refine(Cd t A s w H.out HP.out.1).mono ?_;rintro _ w1 ⟨rfl,hw1⟩;subst hw1;go_wp2_with fail;refine(AK A s t _ HE.out.2.1 HP.out.1 HP.out.2.1).mono ?_;rintro _ w2 ⟨rfl,ha2,hg2⟩;rw[HP.out.2.2.1]at ha2;have HE2:Hid _:=RE.to HE.out ha2 hg2;clear ha2 hg2 HE H;go_wp2_with fail;refine(Cr A s1 Ao _ HE2.out.2.1 HP.out.2.2.2).mono ?_;rintro _ w3 ⟨rfl,hw3⟩;subst hw3;go_wp2_with fail;refine(Fk A s1 t _ HE2.out.2.1 hsz).mono ?_;rintro _ w4 ⟨rfl,ha4,hg4⟩;rw[HY.out.2]at ha4;rw[HY.out.1];have HE5:Hid _:=Ic ha4 (HE2.out.2.2.trans hg4) 1 y;clear ha4 hg4 HE2;go_wp2_with fail;refine(Cr A s2 At _ HE5.out.2.1 HNo.out).mono ?_;rintro _ w6 ⟨rfl,hw6⟩;subst hw6;go_wp2;go_ret;exact⟨_,rfl,HE5.out.1,HE5.out.2.1,HE5.out.2.2⟩
end
end Go.Proofs.YtgfldnaahojnlaaGreatDoor
