/- MatchFinds: part 50. -/
import Derived.Test.YtgfldnaahojnlaaGreatDoorF48
import Derived.Test.YtgfldnaahojnlaaGreatDoorF49
import Derived.Shelf.GgSortFunc.Tiny
import Derived.Shelf.Sort.Plain
import Derived.Shelf.Slices.In.SortNone2
import Derived.Test.YtgfldnaahojnlaaGreatDoorProg
set_option maxRecDepth 100000
set_option maxHeartbeats 4000000
namespace Go.Proofs.YtgfldnaahojnlaaGreatDoor
section
open Go.RowKit
theorem Vw (s:Sl) (d:Array Pl) (w:World) (h:SS s d w) (a b:Nat) (hab:a<=b) (hb:b<=s.n):
  Calls Tryz.prog 211 #[.agg #[(Value.func (.func 104) #[] #[.pointer (some ⟨s.Bs,0,none⟩)]),(Value.func (.func s.sf) #[] s.sb)],.int .i64 a,.int .i64 b] w fun e w'=>e= .returned (.tuple #[])/\SS s (Sort.breakPatterns d a b) w'/\w.grownBy w' (some s.blk):=by
 have hn:=h.2.2.2.1.2.2.2;have hs:=h.2.1;have hc:=Any.breakPatterns_func_cells_w (P:=Tryz.prog) (ρ:=Tryz.laysGg6_ren) {Tryz.laysGg6 with} A9 2 FG (.func 104) #[] #[.pointer (some ⟨s.Bs,0,none⟩)] s.sf s.sb s.blk s.off a b d w (by rw[hs];exact h.2.2.2.2) h.1 h.2.2.2.1.2.1 hab (by omega) (by omega);refine Calls.mono hc ?_;rintro e w' ⟨rfl,n,os,rfl⟩;have hg:=II w s.blk s.off (Sort.breakPatterns d a b) n os;have hz:(Sort.breakPatterns d a b).size=d.size:=(Sort.breakPatterns_holds d a b hab (by omega)).1;exact⟨rfl,SS.grown h hg (holdsK_sortWorldK A9 2 w s.blk s.off n d _ os h.2.2.2.1.2.1 h.1 hz) hz,hg⟩
theorem OZ (s:Sl) (d:Array Pl) (w:World) (h:SS s d w) (a b:Nat) (hab:a<=b) (hb:b<=s.n):
  Calls Tryz.prog 213 #[.agg #[(Value.func (.func 104) #[] #[.pointer (some ⟨s.Bs,0,none⟩)]),(Value.func (.func s.sf) #[] s.sb)],.int .i64 a,.int .i64 b] w fun e w'=>e= .returned (.tuple #[])/\SS s (Sort.reverseRange d a b) w'/\w.grownBy w' (some s.blk):=by
 have hn:=h.2.2.2.1.2.2.2;have hs:=h.2.1;have hc:=Any.reverseRange_func_cells_w (P:=Tryz.prog) (ρ:=Tryz.laysGg6_ren) {Tryz.laysGg6 with} A9 2 FG (.func 104) #[] #[.pointer (some ⟨s.Bs,0,none⟩)] s.sf s.sb s.blk s.off a b d w (by rw[hs];exact h.2.2.2.2) h.1 h.2.2.2.1.2.1 hab (by omega) (by omega);refine Calls.mono hc ?_;rintro e w' ⟨rfl,n,os,rfl⟩;have hg:=II w s.blk s.off (Sort.reverseRange d a b) n os;have hz:(Sort.reverseRange d a b).size=d.size:=(Sort.reverseRange_holds d a b hab (by omega)).1;exact⟨rfl,SS.grown h hg (holdsK_sortWorldK A9 2 w s.blk s.off n d _ os h.2.2.2.1.2.1 h.1 hz) hz,hg⟩
theorem EX {p q:Pl}:ltB p q=true↔LtP p q:=by rw[ltB,decide_eq_true_eq,GA]
theorem LtP.total (p q:Pl):LtP p q\/p=q\/LtP q p:=by
 rcases Hj p q with⟨_,l⟩|⟨_,l⟩|⟨_,l⟩
 ·exact .inl l
 ·exact .inr (.inl l)
 ·exact .inr (.inr l)
theorem swo:Sort.SWO ltB where
 irrefl x:=by
  rw[Bool.eq_false_iff];exact fun h=>LtP.irrefl x (EX.1 h)
 trans x y z h1 h2:=EX.2 ((EX.1 h1).trans (EX.1 h2))
 ntrans x y z h1 h2:=by
  rw[Bool.eq_false_iff];intro h;have l:=EX.1 h;rcases LtP.total x y with e|e|e
  ·rw[EX.2 e]at h1;cases h1
  ·subst e;rw[h]at h2;cases h2
  ·rw[EX.2 (e.trans l)]at h2;cases h2
def Inv (A B:Nat) (d0:Array Pl) (a b:Nat) (d:Array Pl):Prop:=
 Sort.Below ltB a b d/\∀R,Sort.PermIn a b d R->Sort.SortedIn ltB a b R->Sort.PermIn A B d0 R/\Sort.SortedIn ltB A B R
theorem Inv.perm {A B:Nat} {d0:Array Pl} {a b:Nat} {d d1:Array Pl} (h:Inv A B d0 a b d) (hb:b<=d.size) (hp:Sort.PermIn a b d d1):Inv A B d0 a b d1:=
 ⟨h.1.perm hb hp,fun R hR hs=>h.2 R (Sort.permIn_trans _ _ _ a b hp hR) hs⟩
theorem Inv.start (a b:Nat) (d:Array Pl) (h:Sort.Below ltB a b d):Inv a b d a b d:=⟨h,fun _ hR hs=>⟨hR,hs⟩⟩
theorem TW {s:Sl} {B:Nat} {w:World} {d:Array Pl} {wx:World} (h:SE s B w d wx) (a b:Nat) (hab:a+12<b) (hb:b<=s.n):
  Calls Tryz.prog 212 #[.agg #[(Value.func (.func 104) #[] #[.pointer (some ⟨s.Bs,0,none⟩)]),(Value.func (.func s.sf) #[] s.sb)],.int .i64 a,.int .i64 b] wx fun e w'=>
   ∃(pv:Nat) (hc:Int),e= .returned (.tuple #[.int .i64 pv,.int .i64 hc])/\a<=pv/\pv<b/\SE s B w d w':=by
 refine(TV s d wx h.2.2.1 a b hab hb).mono ?_;rintro e w' ⟨rfl,_,h2⟩;obtain⟨c1,c2⟩:=Sort.choosePivot_holds ltB d a b (by omega);exact⟨_,_,rfl,c1,c2,h.step h2⟩
set_option maxHeartbeats 12800000
theorem XH:∀(N:Nat) (s:Sl) (d:Array Pl) (w:World) (a b limit:Nat),b-a<N->SS s d w->a<=b->b<=s.n->limit<1000000->Sort.Below ltB a b d->∀(x y z:Int),x=a->y=b->z=limit->
  Calls Tryz.prog 153 #[.agg #[(Value.func (.func 104) #[] #[.pointer (some ⟨s.Bs,0,none⟩)]),(Value.func (.func s.sf) #[] s.sb)],.int .i64 x,.int .i64 y,.int .i64 z] w fun e w'=>e= .returned (.tuple #[])/\∃d',SS s d' w'/\(Sort.PermIn a b d d'/\Sort.SortedIn ltB a b d')/\w.grownBy w' (some s.blk):=by
 intro N
 induction N with
 |zero=>intro _ _ _ _ _ _ h;exact absurd h (Nat.not_lt_zero _)
 |succ N ih=>
  intro s d w a b limit hN h hab hb hlimit hB0 x y z hx hy hz;subst hx hy hz;have IH:Hid _:=ih;clear ih;have hn:=h.2.2.2.1.2.2.2;have HE:Hid (SE s w.heap.size w d (w.alloc (.cells #[(Value.func (.func 104) #[] #[.pointer (some ⟨s.Bs,0,none⟩)]),(Value.func (.func s.sf) #[] s.sb)] 242))/\Inv a b d a b d):=⟨SE.box h,Inv.start a b d hB0⟩;clear h hB0;go_enter Tryz.func153,Tryz.ntmps153;go_wp2
  go_loopg [1,2,3,8,9] (b-a) (fun kx s1 s2 s3 s8 s9 wr=>∃(a' b' lim:Nat) (wb wp:Bool) (dk:Array Pl),s1= .int .i64 a'/\s2= .int .i64 b'/\s3= .int .i64 lim/\s8= .bool wb/\s9= .bool wp/\
   a'<=b'/\b'<=s.n/\b'-a'<=kx/\kx<=b-a/\lim<=limit/\Hid (SE s w.heap.size w dk wr/\Inv a b d a' b' dk))
  case atStart=>exact⟨a,b,limit,true,true,d,rfl,rfl,rfl,rfl,rfl,hab,hb,Nat.le_refl _,Nat.le_refl _,Nat.le_refl _,HE.out⟩
  case round=>
   clear HE;obtain⟨a',b',lim,wb,wp,dk,rfl,rfl,rfl,rfl,rfl,hab',hb',hkx,hkN,hlim,hz⟩:=hrel;have HE:Hid _:=hz.out.1;have HV:Hid _:=hz.out.2;clear hz;obtain⟨x0,x1⟩:=HE.out.1;have hds:dk.size=s.n:=HE.out.2.2.1.2.1
   by_cases h12:b'-a'<=12
   ·have h12z:(b':Int)-(a':Int)<=12:=by omega
    have hc:=M8 s dk wr HE.out.2.2.1 a' b' hab' hb'
    go_wp2_with (go_at_call 209;refine hc.mono ?_;rintro e w1 ⟨rfl,h1,h2⟩)
    (try simp only[Exit.inBlock,Exit.then])
    refine bodyPost_ret (results_none rfl _ _ _) rfl ?_;obtain⟨p1,p2⟩:=Sort.insertionSort_holds swo dk a' b' hab' (by omega);exact⟨rfl,_,h1,HV.out.2 _ p1 p2,HE.out.2.2.2.trans h2⟩
   ·have h12z:¬((b':Int)-(a':Int)<=12):=by omega
    by_cases hl0:lim=0
    ·subst hl0
     have hc:=WD s dk wr HE.out.2.2.1 a' b' (by omega) hb'
     go_wp2_with (go_at_call 210;refine hc.mono ?_;rintro e w1 ⟨rfl,h1,h2⟩)
     (try simp only[Exit.inBlock,Exit.then])
     refine bodyPost_ret (results_none rfl _ _ _) rfl ?_;obtain⟨p1,p2⟩:=Sort.heapSort_holds swo dk a' b' hab' (by omega);exact⟨rfl,_,h1,HV.out.2 _ p1 p2,HE.out.2.2.2.trans h2⟩
    ·have hl0z:¬((lim:Int)=0):=by omega
     go_upto_if 35 with fail
     go_cut [3]from 19 (fun s3 wc=>∃(l1:Nat) (d1:Array Pl),s3= .int .i64 l1/\l1<=limit/\Hid (SE s w.heap.size w d1 wc/\Inv a b d a' b' d1))
     case first=>
      cases wb
      ·have hc:=Vw s dk wr HE.out.2.2.1 a' b' hab' hb'
       go_wp2_with (go_at_call 211;refine hc.mono ?_;rintro e w1 ⟨rfl,h1,h2⟩)
       go_meet
       case rel=>exact⟨lim-1,_,by congr 1;omega,by omega,SE.grown HE.out h2 h1,Inv.perm HV.out (by omega) (Sort.breakPatterns_holds dk a' b' hab' (by omega))⟩
      ·go_wp2_with fail
       go_meet
       case rel=>exact⟨lim,dk,rfl,by omega,HE.out,HV.out⟩
     case rest=>
      clear HE HV x0 x1 hds;obtain⟨l1,d1,rfl,hl1,hz⟩:=hcut;have HE:Hid _:=hz.out.1;have HV:Hid _:=hz.out.2;clear hz;obtain⟨x0,x1⟩:=HE.out.1;have hds:d1.size=s.n:=HE.out.2.2.1.2.1
      go_upto_if 50 with(go_at_call 212;refine(TW HE.out a' b' (by omega) hb').mono ?_;rintro e w2 ⟨pv,hc,rfl,hp1,hp2,he2⟩)
      have HE2:Hid _:=he2;clear he2 HE x0 x1;have HE:Hid _:=HE2.out;clear HE2;obtain⟨x0,x1⟩:=HE.out.1
      go_cut [11,12]from 19 (fun s11 s12 wc=>∃(pv:Nat) (hc:Int) (d2:Array Pl),s11= .int .i64 pv/\s12= .int .i64 hc/\a'<=pv/\pv<b'/\Hid (SE s w.heap.size w d2 wc/\Inv a b d a' b' d2))
      case first=>
       by_cases hh:hc=2
       ·subst hh
        have hc3:=OZ s d1 w2 HE.out.2.2.1 a' b' hab' hb'
        go_wp2_with (go_at_call 213;refine hc3.mono ?_;rintro e w3 ⟨rfl,h1,h2⟩)
        go_meet
        case rel=>exact⟨b'-1-(pv-a'),1,_,by congr 1;omega,rfl,by omega,by omega,SE.grown HE.out h2 h1,Inv.perm HV.out (by omega) (Sort.reverseRange_holds d1 a' b' hab' (by omega))⟩
       ·have hh':(hc == 2)=false:=by simpa using hh
        go_wp2_with fail;go_meet
        case rel=>exact⟨pv,hc,d1,rfl,rfl,hp1,hp2,HE.out,HV.out⟩
      case rest=>
       clear HE HV x0 x1 hds hp1 hp2;obtain⟨pv,hc,d2,rfl,rfl,hp1,hp2,hz⟩:=hcut;have HE:Hid _:=hz.out.1;have HV:Hid _:=hz.out.2;clear hz;obtain⟨x0,x1⟩:=HE.out.1;have hds:d2.size=s.n:=HE.out.2.2.1.2.1
       go_upto_region 16 with fail
       go_cut [68]from 19 (fun s68 wx=>∃t:Bool,s68= .bool t/\wx=wc)
       case first=>
        by_cases h1:hc=1
        ·subst h1
         cases wb<;>cases wp<;>
          (go_wp2_with fail
           go_meet;exact⟨_,rfl,rfl⟩)
        ·have h1':(hc == 1)=false:=by simpa using h1
         cases wb<;>cases wp<;>
          (go_wp2_with fail
           go_meet;exact⟨_,rfl,rfl⟩)
       case rest=>
        obtain⟨t,rfl,rfl⟩:=hcut
        go_upto_if 68 with fail
        go_cut []from 19 (fun wx=>∃d3:Array Pl,Hid (SE s w.heap.size w d3 wx/\Inv a b d a' b' d3))
        case first=>
         cases t
         ·go_wp2_with fail
          go_meet
          case rel=>exact⟨d2,HE.out,HV.out⟩
         ·obtain⟨⟨d3,r⟩,hr⟩:∃R,Sort.partialInsertionSort ltB d2 a' b'=R:=⟨_,rfl⟩
          have hc4:=Pm s d2 wc HE.out.2.2.1 a' b' (by omega) hb';obtain⟨q1,q2⟩:=Sort.partialInsertionSort_holds swo d2 a' b' (by omega) (by omega) HV.out.1;rw[hr]at hc4 q1 q2;have HQ1:Hid _:=q1;have HQ2:Hid _:=q2;clear q1 q2 hr
          cases r
          ·go_wp2_with (go_at_call 214;refine hc4.mono ?_;rintro e w4 ⟨rfl,h1,h2⟩)
           go_meet
           case rel=>exact⟨d3,SE.grown HE.out h2 h1,Inv.perm HV.out (by omega) HQ1.out⟩
          ·go_wp2_with (go_at_call 214;refine hc4.mono ?_;rintro e w4 ⟨rfl,h1,h2⟩)
           (try simp only[Exit.inBlock,Exit.then])
           refine bodyPost_ret (results_none rfl _ _ _) rfl ?_;exact⟨rfl,d3,h1,HV.out.2 _ HQ1.out (HQ2.out (by trivial)),HE.out.2.2.2.trans h2⟩
        case rest=>
         clear HE HV x0 x1 hds;obtain⟨d3,hz⟩:=hcut;have HE:Hid _:=hz.out.1;have HV:Hid _:=hz.out.2;clear hz;obtain⟨x0,x1⟩:=HE.out.1;have hds:d3.size=s.n:=HE.out.2.2.1.2.1
         go_upto_region 18 with fail
         go_cut [83]from 19 (fun s83 wx=>∃t:Bool,s83= .bool t/\(t=true->0<a'/\ltB d3[a'-1]! d3[pv]! =false)/\Hid (SE s w.heap.size w d3 wx))
         case first=>
          by_cases ha0:0<a'
          ·have ha0z:(0:Int)<(a':Int):=by omega
           obtain⟨lb,hlb⟩:∃lb,ltB d3[a'-1]! d3[pv]! =lb:=⟨_,rfl⟩;have HL:Hid _:=hlb;clear hlb
           go_wp2_with (go_at_call 104;refine(Au HE.out (a'-1) pv (by omega) (by omega) _ HL.out (by omega) (by omega)).mono ?_;rintro e w5 ⟨rfl,he5⟩)
           go_meet
           case rel=>exact⟨_,rfl,fun ht=>⟨ha0,by rw[HL.out];simpa using ht⟩,he5⟩
          ·have ha0z:¬(0:Int)<(a':Int):=by omega
           go_wp2_with fail;go_meet
           case rel=>exact⟨false,rfl,fun ht=>by(cases ht),HE.out⟩
         case rest=>
          clear HE x0 x1;obtain⟨t,rfl,ht,HE⟩:=hcut;obtain⟨x0,x1⟩:=HE.out.1
          cases t
          ·obtain⟨⟨mid,ap,d4⟩,hr⟩:∃R,Sort.partition ltB d3 a' b' pv=R:=⟨_,rfl⟩
           obtain⟨r1,r2,r3,r4,r5,r6,r7⟩:=Sort.round_part swo (Sort.partition_holds ltB) hp1 hp2 (by omega) HV.out.1 hr;have hc6:=Mr s d3 wc HE.out.2.2.1 a' b' pv (by omega) hb' (by omega);rw[hr]at hc6;have R4:Hid _:=r4;have R5:Hid _:=r5;have R6:Hid _:=r6;have R7:Hid _:=r7;clear r4 r5 r6 r7 hr ht
           go_upto_if 109 with(go_at_call 216;refine hc6.mono ?_;rintro e w7 ⟨rfl,h1,h2⟩)
           have HE7:Hid (SE s w.heap.size w d4 w7):=SE.grown HE.out h2 h1;clear h1 h2 hc6 HE x0 x1;obtain⟨x0,x1⟩:=HE7.out.1
           by_cases h4:mid-a'<b'-mid
           ·have h4z:(mid:Int)-(a':Int)<(b':Int)-(mid:Int):=by omega
            go_wp2_with (go_at_call 153;refine(IH.out s d4 w7 a' mid l1 (by omega) HE7.out.2.2.1 (by omega) (by omega) (by omega) R4.out _ _ _ (by omega) (by omega) (by omega)).mono ?_;rintro e w8 ⟨rfl,d5,h1,⟨p1,p2⟩,h2⟩)
            go_roundg (b'-(mid+1))
            case measure=>omega
            case rel=>
             have e6:=R6.out d5 p1 p2;exact⟨mid+1,b',l1,_,ap,d5,by go_num,rfl,rfl,rfl,rfl,by omega,by omega,Nat.le_refl _,by omega,by omega,SE.grown HE7.out h2 h1,e6.1,fun R hR hs=>HV.out.2 R (e6.2 R hR hs).1 (e6.2 R hR hs).2⟩
           ·have h4z:¬((mid:Int)-(a':Int)<(b':Int)-(mid:Int)):=by omega
            go_wp2_with (go_at_call 153;refine(IH.out s d4 w7 (mid+1) b' l1 (by omega) HE7.out.2.2.1 (by omega) (by omega) (by omega) R5.out _ _ _ (by omega) (by omega) (by omega)).mono ?_;rintro e w8 ⟨rfl,d5,h1,⟨p1,p2⟩,h2⟩)
            go_roundg (mid-a')
            case measure=>omega
            case rel=>
             have e7:=R7.out d5 p1 p2;exact⟨a',mid,l1,_,ap,d5,rfl,rfl,rfl,rfl,rfl,by omega,by omega,Nat.le_refl _,by omega,by omega,SE.grown HE7.out h2 h1,e7.1,fun R hR hs=>HV.out.2 R (e7.2 R hR hs).1 (e7.2 R hR hs).2⟩
          ·obtain⟨ha0,hnl⟩:=ht rfl
           clear ht;obtain⟨⟨mid,d4⟩,hr⟩:∃R,Sort.partitionEqual ltB d3 a' b' pv=R:=⟨_,rfl⟩;obtain⟨r1,r2,r3,r4,r5⟩:=Sort.round_eq swo (Sort.partitionEqual_holds ltB) ha0 hp1 hp2 (by omega) HV.out.1 hnl hr;have hc6:=Va s d3 wc HE.out.2.2.1 a' b' pv (by omega) hb' (by omega);rw[hr]at hc6;have R4:Hid _:=r4;have R5:Hid _:=r5;clear r4 r5 hr hnl
           go_wp2_with (go_at_call 215;refine hc6.mono ?_;rintro e w7 ⟨rfl,h1,h2⟩)
           go_roundg (b'-mid)
           case measure=>omega
           case rel=>exact⟨mid,b',l1,wb,wp,d4,rfl,rfl,rfl,rfl,rfl,r2,hb',Nat.le_refl _,by omega,by omega,SE.grown HE.out h2 h1,R4.out,fun R hR hs=>HV.out.2 R (R5.out R hR hs).1 (R5.out R hR hs).2⟩
end
section
open Go.RowKit Go.Shelf
noncomputable def XF:TypeInfo:=(Tryz.prog.info? 91).get (by kernel_rfl)
noncomputable def plT:TypeInfo:=(Tryz.prog.info? 81).get (by kernel_rfl)
theorem Xj (n:Nat) (h2:2<=n):Lib.swapperK n plT 25=9:=by
 have a:plT.hasPointers=false:=by kernel_rfl
 have b:plT.bytes=16:=by kernel_rfl
 have c:(n == 0)=false:=by simp;omega
 have d:(n == 1)=false:=by simp;omega
 simp[Lib.swapperK,a,b,c,d]
theorem Nj (p:Option Addr) (n c Bs:Nat) (h1:n<=1) (w:World):
  Calls Tryz.prog 103 #[.iface 91 (.slice p n c),.func (.func 104) #[] #[.pointer (some ⟨Bs,0,none⟩)]] w fun e w'=>e= .returned (.tuple #[])/\Below w.heap.size w w':=by
 have key:∀os,Below w.heap.size w (Sort.grow w os):=fun os=>⟨rfl,rfl,rfl,by simp[Sort.grow],fun k hk=>by simp only[Sort.grow];rw[Array.getElem?_append_left hk]⟩
 by_cases h0:n=0
 ·subst h0
  exact(Any.sort_Slice_tiny Tryz.laysGg6 91 81 XF plT (by kernel_rfl) (by kernel_rfl) (by kernel_rfl) (by kernel_rfl) 25 (fun _=>by kernel_rfl) p 0 c (by omega) 198 (by kernel_rfl) _ _ _ w).mono fun _ _ ⟨he,os,hw⟩=>⟨he,by rw[hw];exact key os⟩
 ·have e:n=1:=by omega
  subst e;exact(Any.sort_Slice_tiny Tryz.laysGg6 91 81 XF plT (by kernel_rfl) (by kernel_rfl) (by kernel_rfl) (by kernel_rfl) 25 (fun _=>by kernel_rfl) p 1 c (by omega) 199 (by kernel_rfl) _ _ _ w).mono fun _ _ ⟨he,os,hw⟩=>⟨he,by rw[hw];exact key os⟩
theorem PU (x:Pl):∀v∈A9 x,v.oneCell'=true:=by intro v hv;simp[A9]at hv;rcases hv with rfl|rfl<;>rfl
set_option maxHeartbeats 2000000
theorem Rt (d:Array Pl) (g c Bs:Nat) (w:World) (h2:2<=d.size) (hsz:d.size<1000000) (hH:Sort.HoldsK A9 2 w g 0 d) (hg:g<w.heap.size) (hB:w.cell? ⟨Bs,0,none⟩=some (.slice (some ⟨g,0,none⟩) d.size c)) (hBl:Bs<w.heap.size) (hne:Bs≠g):
  Calls Tryz.prog 103 #[.iface 91 (.slice (some ⟨g,0,none⟩) d.size c),.func (.func 104) #[] #[.pointer (some ⟨Bs,0,none⟩)]] w fun e w'=>e= .returned (.tuple #[])/\∃d',Sort.HoldsK A9 2 w' g 0 d'/\(Sort.PermIn 0 d.size d d'/\Sort.SortedIn ltB 0 d.size d')/\w.grownBy w' (some g):=by
 refine Any.sort_Slice_of_pdq Tryz.laysGg6 91 81 XF plT (by kernel_rfl) (by kernel_rfl) (by kernel_rfl) (by kernel_rfl) 25 (fun _=>by kernel_rfl) (some ⟨g,0,none⟩) d.size c (by omega) 206 (by rw[Xj _ h2];kernel_rfl) _ _ _ w _ ?_
 have hbd:sliceBound Tryz.prog 81 plT 25 (some ⟨g,0,none⟩) d.size c= #[.slice (some ⟨g,0,none⟩) d.size c,typeHandle Tryz.prog 81]:=by
  unfold sliceBound;rw[Xj _ h2];rfl
 rw[hbd];obtain⟨w1,hw1⟩:∃w1,w1=sliceWorld Tryz.prog Tryz.laysGg6_ren 91 (some ⟨g,0,none⟩) d.size c w:=⟨_,rfl⟩
 have hb1:Below w.heap.size w w1:=by
  rw[hw1];unfold sliceWorld;exact((Below.refl _ _).alloc (Nat.le_refl _) _).alloc (by simp) _
 rw[<-hw1];have hlim:Lib.bitLen d.size<1000000:=Nat.lt_of_le_of_lt (Lib.bitLen_le d.size 62 (by omega) (by omega)) (by omega);have hs:=hb1.size
 have hSS:SS ⟨g,0,c,Bs,d.size,206,#[.slice (some ⟨g,0,none⟩) d.size c,typeHandle Tryz.prog 81]⟩ d w1:=by
  refine⟨EY hH (hb1.block _ hg),rfl,by rw[hb1.cell (p:=⟨Bs,_,none⟩) hBl];exact hB,⟨hne,by show g<_;omega,by show Bs<_;omega,hsz⟩,?_⟩;exact swapSwapsK_of_literal false _ (fun args W=>run_callFunc_extern Tryz.func206 (by kernel_rfl) (by kernel_rfl) (by kernel_rfl) (e:=Extern.ReflectliteSwapper.swap false) (by kernel_rfl) args W) 81 plT (by kernel_rfl) A9 2 FG (by kernel_rfl) (fun _=>by kernel_rfl) PU g 0 d.size c
 refine(XH (d.size+1) _ d w1 0 d.size (Lib.bitLen d.size) (by omega) hSS (Nat.zero_le _) (Nat.le_refl _) hlim (Or.inl rfl) _ _ _ rfl rfl rfl).mono ?_;rintro e w' ⟨rfl,d',h1,h3,h4⟩;exact⟨rfl,d',h1.1,h3,(Aq hb1 _).trans h4⟩
end
section
open Go.RowKit
def BY (prev:Option Pl):List Pl->List Pl
 | []=>[]
 |p::l=>if prev=some p then BY (some p) l else p::BY (some p) l
theorem Pq (l:List Pl):∀prev,l.Pairwise (fun x y=>¬LtP y x)->(∀q,prev=some q->∀x∈l,¬LtP x q)->
  (BY prev l).Pairwise LtP/\(∀x,x∈BY prev l->x∈l/\∀q,prev=some q->LtP q x)/\(∀x∈l,x∈BY prev l\/prev=some x):=by
 induction l with
 |nil=>intro prev _ _;exact⟨List.Pairwise.nil,fun x h=>(by cases h),fun x h=>(by cases h)⟩
 |cons p l ih=>
  intro prev h hq;obtain⟨h1,h2⟩:=List.pairwise_cons.1 h;obtain⟨i1,i2,i3⟩:=ih (some p) h2 (fun q e x hx=>by cases e;exact h1 x hx);unfold BY;split
  ·rename_i e
   refine⟨i1,fun x hx=>⟨by simp[(i2 x hx).1],fun q eq=>(i2 x hx).2 q (by rw[<-eq,e])⟩,fun x hx=> ?_⟩;rcases List.mem_cons.1 hx with rfl|hx
   ·exact .inr e
   ·rcases i3 x hx with h|h
    ·exact .inl h
    ·cases h;exact .inr e
  ·rename_i e
   have hlt:∀q,prev=some q->LtP q p:=fun q eq=>by
    rcases LtP.total q p with l|l|l
    ·exact l
    ·subst l;exact absurd eq e
    ·exact absurd l (hq q eq p (by simp))
   refine⟨List.Pairwise.cons (fun x hx=>(i2 x hx).2 p rfl) i1,fun x hx=> ?_,fun x hx=> ?_⟩
   ·rcases List.mem_cons.1 hx with rfl|hx
    ·exact⟨by simp,hlt⟩
    ·exact⟨by simp[(i2 x hx).1],fun q eq=>(hlt q eq).trans ((i2 x hx).2 p rfl)⟩
   ·rcases List.mem_cons.1 hx with rfl|hx
    ·exact .inl (by simp)
    ·rcases i3 x hx with h|h
     ·exact .inl (by simp[h])
     ·cases h;exact .inl (by simp)
theorem RT {l:List Pl} (h:l.Pairwise (fun x y=>¬LtP y x)):(BY none l).Pairwise LtP/\∀x,x∈BY none l↔x∈l:=by
 obtain⟨h1,h2,h3⟩:=Pq l none h (fun q e=>by cases e);refine⟨h1,fun x=>⟨fun hx=>(h2 x hx).1,fun hx=> ?_⟩⟩;rcases h3 x hx with h|h
 ·exact h
 ·cases h
theorem Us (l:List Pl):∀prev,(BY prev l).length<=l.length:=by
 induction l with
 |nil=>intro prev;simp[BY]
 |cons p l ih=>
  intro prev;unfold BY;have:=ih (some p);split<;>simp<;>omega
theorem MA {w:World} {B g cap:Nat} {xs:List Pl} (h:w.ownsRow B 81 2 (.slice (some ⟨g,0,none⟩) xs.length cap) xs.length (plc xs)):Sort.HoldsK A9 2 w g 0 xs.toArray:=by
 rcases h.2 with⟨e,_⟩|⟨g',cap',cur,e,_,hg,_⟩
 ·cases e
 ·cases e
  intro j hj;have hj':j<xs.length * 2:=by simpa using hj
  have hfl:=Sort.get_flatK A9 2 xs.toArray j (by simpa using hj');have hd:j / 2<xs.length:=by omega
  obtain⟨c0,c1⟩:=Qz xs (j / 2) hd;have hx:xs.toArray[j / 2]! =xs[j / 2]:=by simp[hd]
  rw[hx]at hfl;generalize xs[j / 2]=q at hfl c0 c1
  have key:(plc xs)[j]? =some (Sort.flatK A9 2 xs.toArray)[j]! :=by
   rw[hfl];rcases Nat.mod_two_eq_zero_or_one j with m|m
   ·have e:(plc xs)[j]? =(plc xs)[j / 2 * 2]? :=congrArg (fun t=>(plc xs)[t]?) (by omega)
    rw[m,e,c0];rfl
   ·have e:(plc xs)[j]? =(plc xs)[j / 2 * 2+1]? :=congrArg (fun t=>(plc xs)[t]?) (by omega)
    rw[m,e,c1];rfl
  have k:=h.cells (g:=g) rfl _ _ key;rw[Go.WideShapes.add_plain]at k;refine⟨k,?_⟩;simp[World.frozen?,hg]
theorem Ni {xs:List Pl} {d':Array Pl} (hp:Sort.PermIn 0 xs.toArray.size xs.toArray d') (hs:Sort.SortedIn ltB 0 xs.toArray.size d'):d'.toList.length=xs.length/\d'.toList.Pairwise (fun x y=>¬LtP y x)/\∀x,x∈d'.toList↔x∈xs:=by
 have hsz:d'.size=xs.length:=by rw[hp.1];simp
 have hperm:=hp.2.2;rw[show xs.toArray.extract 0 xs.toArray.size=xs.toArray by simp,show d'.extract 0 xs.toArray.size=d' by rw[<-hp.1];simp]at hperm;refine⟨by simpa using hsz,?_,fun x=>by have:=hperm.mem_iff (a:=x);simpa using this⟩;rw[List.pairwise_iff_getElem];intro i j hi hj hij hlt;have hj':j<d'.size:=by simpa using hj
 have hi':i<d'.size:=by simpa using hi
 have h:=hs i j (Nat.zero_le _) hij (by rw[<-hp.1];exact hj');rw[getElem!_pos d' i hi',getElem!_pos d' j hj']at h;have:=EX.2 hlt;simp only[Array.getElem_toList]at this;rw[this]at h;cases h
theorem KP {w:World} {g:Nat} {d:Array Pl} (h:Sort.HoldsK A9 2 w g 0 d) (hg:g<w.heap.size) (hl:d.size<=1000000):FI w (some ⟨g,0,none⟩) d.toList.length d.toList:=by
 refine⟨rfl,by simpa using hl,.inr ⟨g,0,rfl,hg,fun i hi=> ?_⟩⟩;have hi':i<d.size:=by simpa using hi
 have c0:=(h.cell (i:=i) (c:=0) hi' (by omega)).1;have c1:=(h.cell (i:=i) (c:=1) hi' (by omega)).1;rw[getElem!_pos d i hi']at c0 c1;exact⟨by simpa [A9]using c0,by simpa [A9]using c1⟩
theorem Rs (B0:Nat) (p:Option Addr) (c:Nat) (xs:List Pl) (w:World) (hown:w.ownsRow B0 81 2 (.slice p xs.length c) xs.length (plc xs)) (hB:B0<=w.heap.size) (hl:xs.length<=100000):
  Calls Tryz.prog 103 #[.iface 91 (.slice p xs.length c),.func (.func 104) #[] #[.pointer (some ⟨w.heap.size,0,none⟩)]] (w.alloc (.cells #[.slice p xs.length c] 91)) fun e w'=>
   e= .returned (.tuple #[])/\∃ys:List Pl,(ys.length=xs.length/\ys.Pairwise (fun x y=>¬LtP y x)/\∀x,x∈ys↔x∈xs)/\FI w' p ys.length ys/\w'.cell? ⟨w.heap.size,0,none⟩=some (.slice p xs.length c)/\w.heap.size<w'.heap.size/\Below B0 w w':=by
 have hb0:Below w.heap.size w (w.alloc (.cells #[.slice p xs.length c] 91)):=(Below.refl _ _).alloc (Nat.le_refl _) _;have hsz:(w.alloc (.cells #[.slice p xs.length c] 91)).heap.size=w.heap.size+1:=by simp
 have hcell:(w.alloc (.cells #[.slice p xs.length c] 91)).cell? ⟨w.heap.size,0,none⟩=some (.slice p xs.length c):=by simp
 by_cases h1:xs.length<=1
 ·refine(Nj p xs.length c w.heap.size h1 _).mono ?_
  rintro e w' ⟨rfl,hb⟩;have hs:=hb.size;refine⟨rfl,xs,⟨rfl,?_,fun x=>Iff.rfl⟩,?_,by rw[hb.cell (p:=⟨w.heap.size,0,none⟩) (by simp)];exact hcell,by omega,(hb0.mono hB).trans (hb.mono (by omega))⟩
  ·match xs,h1 with
   | [],_=>exact List.Pairwise.nil
   | [x],_=>simp
  ·obtain⟨a,cp,e,hr,_⟩:=ER hown (by omega)
   cases e
   exact FI.below (FI.below hr hb0) hb
 ·rcases hown.2 with⟨e,h0⟩|⟨g,cap,cur,e,hBg,hg,_⟩
  ·omega
  ·cases e
   have hgl:g<w.heap.size:=(Array.getElem?_eq_some_iff.1 hg).1;have hH:=MA hown;have hH1:=EY hH (hb0.block _ hgl);have hc:=Rt xs.toArray g c w.heap.size (w.alloc (.cells #[.slice (some ⟨g,0,none⟩) xs.length c] 91)) (by simp;omega) (by simp;omega) hH1 (by omega) (by simp) (by omega) (by omega);rw[show xs.toArray.size=xs.length by simp]at hc;refine hc.mono ?_;rintro e w' ⟨rfl,d',hd,⟨hp,hs⟩,hgr⟩;obtain⟨s1,s2,s3⟩:=Ni (xs:=xs) (d':=d') (by simpa using hp) (by simpa using hs);have hsz':=hgr.size;have hd':d'.size=xs.length:=by simpa using s1
   refine⟨rfl,d'.toList,⟨s1,s2,s3⟩,KP hd (by omega) (by omega),hgr.cell hcell (by simp;omega),by omega,?_⟩;exact(hb0.mono hB).grown hgr (by omega) (fun k hk=>by cases hk;exact hBg)
def ES (ys:List Pl) (k:Nat):Option Pl:=if k=0 then none else ys[k-1]?
theorem JK {ys:List Pl} {k:Nat} (h:k<ys.length):ES ys (k+1)=some ys[k]:=by simp[ES,h]
theorem Pp {ys:List Pl} {k:Nat} (h:k<ys.length):BY (ES ys k) (ys.drop k)=(if ES ys k=some ys[k]then []else [ys[k]])++BY (ES ys (k+1)) (ys.drop (k+1)):=by
 rw[List.drop_eq_getElem_cons h,BY,JK h];split<;>simp
theorem OO (B0:Nat) (v:Value) (xs:List Pl) (w:World) (hown:w.ownsRow B0 81 2 v xs.length (plc xs)) (hB:B0<=w.heap.size) (hl:xs.length<=100000):
  Calls Tryz.prog 67 #[v] w fun e w'=>∃v' T,e= .returned v'/\w'.ownsRow B0 81 2 v' T.length (plc T)/\(T.Pairwise LtP/\(∀x,x∈T↔x∈xs)/\T.length<=xs.length)/\Below B0 w w':=by
 have st:=Qo;have gd:=QO;obtain⟨i0,hi,hz0,hz1,hz2⟩:=A5 He;obtain⟨p,c,rfl,_,_⟩:=ER hown (by omega);have hc:=Rs B0 p c xs w hown hB hl;clear hown;go_enter Tryz.func67,Tryz.ntmps67;go_wp2_with fail;refine hc.mono ?_;rintro e w2 ⟨rfl,ys,⟨y1,y2,y3⟩,hr,hcell,hsz,hb2⟩;go_wp2;clear hc
 have HT:Hid ((BY none ys).Pairwise LtP/\(∀x,x∈BY none ys↔x∈xs)/\(BY none ys).length<=xs.length):=by
  obtain⟨t1,t2⟩:=RT y2;exact⟨t1,fun x=>by rw[t2,y3],by rw[<-y1];exact Us ys none⟩
 obtain⟨T,hT⟩:∃T,BY none ys=T:=⟨_,rfl⟩;have HS:Hid (BY (ES ys 0) (ys.drop 0)=T):=hT;rw[hT]at HT;have HB2:Hid (Below B0 w w2):=hb2;clear hT y2 y3 hb2;obtain⟨_,hm,hx⟩:=hr;rw[<-y1];rw[<-y1]at hcell;have hs2:B0<=w2.heap.size:=by omega
 rw[<-y1]at hl;clear y1;go_loopw [3,12] (fun v i wr=>∃(k:Nat) (l:List Pl),k<=ys.length/\l.length<=k/\i= .int .i64 k/\Hid (l++BY (ES ys k) (ys.drop k)=T)/\Hid (wr.ownsRow w2.heap.size 81 2 v l.length (plc l)/\Below w2.heap.size w2 wr)) (fun _ i _=>ys.length-(intOf i).toNat)
 case atStart=>exact⟨0,[],Nat.zero_le _,by simp,rfl,HS,World.ownsRow_nil _ _ _ _,Below.refl _ _⟩
 case round=>
  clear HS;obtain⟨k,l,hk,hlk,rfl,hz,hown⟩:=hrel
  by_cases hlt:k<ys.length
  ·rcases hx with hx|⟨b,off,rfl,hb,hrow⟩
   ·simp[hx]at hlt
   obtain⟨g1,g2⟩:=hrow k hlt;have hcr:=hcell;rw[<-hown.out.2.cell (p:=⟨b,_,none⟩) hb]at g1 g2;rw[<-hown.out.2.cell (p:=⟨w.heap.size,_,none⟩) hsz]at hcr;have i1:(k:Int)<(ys.length:Int):=by omega
   have HZ:Hid (l++((if ES ys k=some ys[k]then []else [ys[k]])++BY (ES ys (k+1)) (ys.drop (k+1)))=T):=by
    show _=_;rw[<-hz.out,Pp hlt]
   have HB:Hid (Below w2.heap.size w2 wr):=hown.out.2;have HO:Hid (wr.ownsRow w2.heap.size 81 2 u3 l.length (plc l)):=hown.out.1;have HLK:Hid (l.length<=k):=hlk;clear hown hz
   by_cases hk0:k=0
   ·subst hk0
    have HZ2:Hid ((l++[ys[0]])++BY (ES ys (0+1)) (ys.drop (0+1))=T):=by
     show _=_;rw[<-HZ.out,if_neg (by simp[ES]),List.append_assoc]
    clear HZ hrow;simp only[Nat.zero_mul,Nat.add_zero]at g1 g2;generalize ys[0]=q at *;have HA:Hid (Below wr.heap.size wr (wr.alloc (.cells #[.int .i64 q.r,.int .i64 q.a] 81))):=(Below.refl _ _).alloc (Nat.le_refl _) _;go_wp2;go_quiet (fail);have HBq:Hid (Below w2.heap.size w2 ((wr.alloc (.cells #[.int .i64 q.r,.int .i64 q.a] 81)).drewN nq)):=below_drewN (HB.out.trans (HA.out.mono HB.out.size)) _;have HOq:Hid (((wr.alloc (.cells #[.int .i64 q.r,.int .i64 q.a] 81)).drewN nq).ownsRow w2.heap.size 81 2 u3 l.length (plc l)):=Bi HO.out (below_drewN HA.out _);obtain⟨k1,k2,_,_,_⟩:=Az.below (Az.box wr q) (below_drewN (Below.refl _ _) nq);clear HA HO HB;generalize (wr.alloc (.cells #[.int .i64 q.r,.int .i64 q.a] 81)).drewN nq=wq at *;have hsq:=HBq.out.size
    go_wp2_with (at_builtin;refine wpList_append_own _ rfl _ _ 91 rfl w2.heap.size 81 i0 (.agg #[.int .i64 0,.int .i64 0]) 2 16 Tryz.underlying91 hi hz0 hz1 hz2 rfl (by decide) _ _ _ rfl (HOq.out.alloc _) ⟨wq.heap.size,0,none⟩ 1 1 (plc [q]) rfl rfl (G6 wq q 81) (I8 q) (by simp[maxLen];omega) (by omega) (by simp;omega) ?_)
    intro v3 w3 ho3 hg3 _;have HB3:Hid (Below w2.heap.size w2 w3):=(HBq.out.alloc (by omega) _).grown hg3 (by simp;omega) (fun g hg=>(HOq.out.lt g hg).1);have HO3:Hid (w3.ownsRow w2.heap.size 81 2 v3 (l++[q]).length (plc (l++[q]))):=Bc ho3 (by simp) (by rw[Cc]);clear ho3 hg3 HOq HBq k1 k2;go_wp2;go_roundw
    case rel=>exact⟨0+1,l++[q],by omega,by have:=HLK.out;simp only[List.length_append,List.length_cons,List.length_nil];omega,by go_num,HZ2,HO3.out,HB3.out⟩
    case measure=>simp[intOf];omega
   ·obtain⟨j,rfl⟩:∃j,k=j+1:=⟨k-1,by omega⟩
    obtain⟨g3,g4⟩:=hrow j (by omega);clear hrow;rw[<-HB.out.cell (p:=⟨b,_,none⟩) hb]at g3 g4
    have HZ2:Hid (l++((if ys[j]=ys[j+1]then []else [ys[j+1]])++BY (ES ys (j+1+1)) (ys.drop (j+1+1)))=T):=by
     show _=_;rw[<-HZ.out,JK (by omega:j<ys.length)];simp only[Option.some.injEq]
    clear HZ;generalize ys[j+1]=q at *;generalize ys[j]=p at *;have HA:Hid (Below wr.heap.size wr (wr.alloc (.cells #[.int .i64 q.r,.int .i64 q.a] 81))):=(Below.refl _ _).alloc (Nat.le_refl _) _;have q3:(wr.alloc (.cells #[.int .i64 q.r,.int .i64 q.a] 81)).cell? ⟨b,off+j * 2,none⟩=some (.int .i64 p.r):=by rw[HA.out.cell (p:=⟨b,_,none⟩) (Nat.lt_of_lt_of_le hb HB.out.size)];exact g3
    have q4:(wr.alloc (.cells #[.int .i64 q.r,.int .i64 q.a] 81)).cell? ⟨b,off+j * 2+1,none⟩=some (.int .i64 p.a):=by rw[HA.out.cell (p:=⟨b,_,none⟩) (Nat.lt_of_lt_of_le hb HB.out.size)];exact g4
    have q5:(wr.alloc (.cells #[.int .i64 q.r,.int .i64 q.a] 81)).cell? ⟨w.heap.size,0,none⟩=some (.slice (some ⟨b,off,none⟩) ys.length c):=by rw[HA.out.cell (p:=⟨w.heap.size,_,none⟩) (Nat.lt_of_lt_of_le hsz HB.out.size)];exact hcr
    have i2:(j:Int)<(ys.length:Int):=by omega
    have i3:((j:Int)+1 == 0)=false:=by simp;omega
    clear g3 g4 hcr
    by_cases hpq:p=q
    ·subst hpq
     have HZ3:Hid (l++BY (ES ys (j+1+1)) (ys.drop (j+1+1))=T):=by
      have h:=HZ2.out;rw[if_pos rfl]at h;exact h
     clear HZ2;go_wp2;go_quiet (fail);have HBq:Hid (Below w2.heap.size w2 ((wr.alloc (.cells #[.int .i64 p.r,.int .i64 p.a] 81)).drewN nq)):=below_drewN (HB.out.trans (HA.out.mono HB.out.size)) _;have HOq:Hid (((wr.alloc (.cells #[.int .i64 p.r,.int .i64 p.a] 81)).drewN nq).ownsRow w2.heap.size 81 2 u3 l.length (plc l)):=Bi HO.out (below_drewN HA.out _);clear HA HO HB q3 q4 q5;go_wp2;go_roundw
     case rel=>exact⟨j+1+1,l,by omega,by have:=HLK.out;omega,by go_num,HZ3,HOq.out,HBq.out⟩
     case measure=>simp[intOf];omega
    ·have HZ3:Hid ((l++[q])++BY (ES ys (j+1+1)) (ys.drop (j+1+1))=T):=by
      have h:=HZ2.out;rw[if_neg hpq]at h;show _=_;rw[List.append_assoc];exact h
     clear HZ2
     have hd:((p.r == q.r)=false/\True)\/((p.r == q.r)=true/\(p.a == q.a)=false):=by
      by_cases e1:p.r=q.r
      ·refine .inr ⟨by simpa using e1,?_⟩
       have e2:p.a≠q.a:=fun e2=>hpq (by obtain⟨_,_⟩:=p;obtain⟨_,_⟩:=q;simp at e1 e2;simp[e1,e2]);simpa using e2
      ·exact .inl ⟨by simpa using e1,trivial⟩
     clear hpq;rcases hd with⟨m1,_⟩|⟨m1,m2⟩
     ·go_wp2
      go_quiet (fail);have HBq:Hid (Below w2.heap.size w2 ((wr.alloc (.cells #[.int .i64 q.r,.int .i64 q.a] 81)).drewN nq)):=below_drewN (HB.out.trans (HA.out.mono HB.out.size)) _;have HOq:Hid (((wr.alloc (.cells #[.int .i64 q.r,.int .i64 q.a] 81)).drewN nq).ownsRow w2.heap.size 81 2 u3 l.length (plc l)):=Bi HO.out (below_drewN HA.out _);obtain⟨k1,k2,_,_,_⟩:=Az.below (Az.box wr q) (below_drewN (Below.refl _ _) nq);clear HA HO HB;generalize (wr.alloc (.cells #[.int .i64 q.r,.int .i64 q.a] 81)).drewN nq=wq at *;have hsq:=HBq.out.size
      go_wp2_with (at_builtin;refine wpList_append_own _ rfl _ _ 91 rfl w2.heap.size 81 i0 (.agg #[.int .i64 0,.int .i64 0]) 2 16 Tryz.underlying91 hi hz0 hz1 hz2 rfl (by decide) _ _ _ rfl (HOq.out.alloc _) ⟨wq.heap.size,0,none⟩ 1 1 (plc [q]) rfl rfl (G6 wq q 81) (I8 q) (by simp[maxLen];omega) (by omega) (by simp;omega) ?_)
      intro v3 w3 ho3 hg3 _;have HB3:Hid (Below w2.heap.size w2 w3):=(HBq.out.alloc (by omega) _).grown hg3 (by simp;omega) (fun g hg=>(HOq.out.lt g hg).1);have HO3:Hid (w3.ownsRow w2.heap.size 81 2 v3 (l++[q]).length (plc (l++[q]))):=Bc ho3 (by simp) (by rw[Cc]);clear ho3 hg3 HOq HBq k1 k2;go_wp2;go_roundw
      case rel=>exact⟨j+1+1,l++[q],by omega,by have:=HLK.out;simp only[List.length_append,List.length_cons,List.length_nil];omega,by go_num,HZ3,HO3.out,HB3.out⟩
      case measure=>simp[intOf];omega
     ·go_wp2
      go_quiet (fail);have HBq:Hid (Below w2.heap.size w2 ((wr.alloc (.cells #[.int .i64 q.r,.int .i64 q.a] 81)).drewN nq)):=below_drewN (HB.out.trans (HA.out.mono HB.out.size)) _;have HOq:Hid (((wr.alloc (.cells #[.int .i64 q.r,.int .i64 q.a] 81)).drewN nq).ownsRow w2.heap.size 81 2 u3 l.length (plc l)):=Bi HO.out (below_drewN HA.out _);obtain⟨k1,k2,_,_,_⟩:=Az.below (Az.box wr q) (below_drewN (Below.refl _ _) nq);clear HA HO HB;generalize (wr.alloc (.cells #[.int .i64 q.r,.int .i64 q.a] 81)).drewN nq=wq at *;have hsq:=HBq.out.size
      go_wp2_with (at_builtin;refine wpList_append_own _ rfl _ _ 91 rfl w2.heap.size 81 i0 (.agg #[.int .i64 0,.int .i64 0]) 2 16 Tryz.underlying91 hi hz0 hz1 hz2 rfl (by decide) _ _ _ rfl (HOq.out.alloc _) ⟨wq.heap.size,0,none⟩ 1 1 (plc [q]) rfl rfl (G6 wq q 81) (I8 q) (by simp[maxLen];omega) (by omega) (by simp;omega) ?_)
      intro v3 w3 ho3 hg3 _;have HB3:Hid (Below w2.heap.size w2 w3):=(HBq.out.alloc (by omega) _).grown hg3 (by simp;omega) (fun g hg=>(HOq.out.lt g hg).1);have HO3:Hid (w3.ownsRow w2.heap.size 81 2 v3 (l++[q]).length (plc (l++[q]))):=Bc ho3 (by simp) (by rw[Cc]);clear ho3 hg3 HOq HBq k1 k2;go_wp2;go_roundw
      case rel=>exact⟨j+1+1,l++[q],by omega,by have:=HLK.out;simp only[List.length_append,List.length_cons,List.length_nil];omega,by go_num,HZ3,HO3.out,HB3.out⟩
      case measure=>simp[intOf];omega
  ·have e:l=T:=by
    have h:=hz.out;rw[List.drop_eq_nil_of_le (by omega)]at h;simpa [BY]using h
   subst e;go_wp2;go_ret;exact⟨_,rfl,l,G4 hown.out.1 (by omega),HT.out,HB2.out.trans (hown.out.2.mono (by omega))⟩
end
end Go.Proofs.YtgfldnaahojnlaaGreatDoor
namespace Go.Proofs
open Go.Shelf
def Tryz.lays191_ren:Go.Shelf.Ren:=⟨fun|191=>106|189=>154|125=>152|257=>217|128=>207|129=>208|294=>239|295=>240|296=>241|297=>242|298=>243|299=>244|216=>245|300=>246|301=>247|328=>258|329=>259|330=>260|331=>261|332=>262|215=>254|343=>266|n=>n,fun|28=>95|0=>0|3=>3|46=>174|51=>289|53=>191|4=>4|183=>322|182=>321|131=>297|5=>5|9=>9|218=>336|222=>318|228=>346|229=>211|n=>n,fun|n=>n⟩
theorem Tryz.lays191:Go.Proofs.Lays.n191 Tryz.prog Tryz.lays191_ren:={
 mixed:=by kernel_rfl
 f125:=Tryz.func152.trans (congrArg some (by kernel_rfl))
 f128:=Tryz.func207.trans (congrArg some (by kernel_rfl))
 f129:=Tryz.func208.trans (congrArg some (by kernel_rfl))
 f189:=Tryz.func154.trans (congrArg some (by kernel_rfl))
 f191:=Tryz.func106.trans (congrArg some (by kernel_rfl))
 f215:=Tryz.func254.trans (congrArg some (by kernel_rfl))
 f216:=Tryz.func245.trans (congrArg some (by kernel_rfl))
 f257:=Tryz.func217.trans (congrArg some (by kernel_rfl))
 f294:=Tryz.func239.trans (congrArg some (by kernel_rfl))
 f295:=Tryz.func240.trans (congrArg some (by kernel_rfl))
 f296:=Tryz.func241.trans (congrArg some (by kernel_rfl))
 f297:=Tryz.func242.trans (congrArg some (by kernel_rfl))
 f298:=Tryz.func243.trans (congrArg some (by kernel_rfl))
 f299:=Tryz.func244.trans (congrArg some (by kernel_rfl))
 f300:=Tryz.func246.trans (congrArg some (by kernel_rfl))
 f301:=Tryz.func247.trans (congrArg some (by kernel_rfl))
 f328:=Tryz.func258.trans (congrArg some (by kernel_rfl))
 f329:=Tryz.func259.trans (congrArg some (by kernel_rfl))
 f330:=Tryz.func260.trans (congrArg some (by kernel_rfl))
 f331:=Tryz.func261.trans (congrArg some (by kernel_rfl))
 f332:=Tryz.func262.trans (congrArg some (by kernel_rfl))
 f343:=Tryz.func266.trans (congrArg some (by kernel_rfl))
 t0:=Tryz.underlying0
 a0:=Tryz.isAgg0
 z0:=Tryz.sizeOf0
 v0:=Tryz.zeroValue0
 t3:=Tryz.underlying3
 a3:=Tryz.isAgg3
 z3:=Tryz.sizeOf3
 v3:=Tryz.zeroValue3
 t4:=Tryz.underlying4
 a4:=Tryz.isAgg4
 z4:=Tryz.sizeOf4
 v4:=Tryz.zeroValue4
 t5:=Tryz.underlying5
 a5:=Tryz.isAgg5
 z5:=Tryz.sizeOf5
 v5:=Tryz.zeroValue5
 t9:=Tryz.underlying9
 a9:=Tryz.isAgg9
 z9:=Tryz.sizeOf9
 v9:=Tryz.zeroValue9
 t28:=Tryz.underlying95
 a28:=Tryz.isAgg95
 z28:=Tryz.sizeOf95
 v28:=Tryz.zeroValue95
 t46:=Tryz.underlying174
 a46:=Tryz.isAgg174
 z46:=Tryz.sizeOf174
 v46:=Tryz.zeroValue174
 t51:=Tryz.underlying289
 a51:=Tryz.isAgg289
 z51:=Tryz.sizeOf289
 v51:=Tryz.zeroValue289
 t53:=Tryz.underlying191
 a53:=Tryz.isAgg191
 z53:=Tryz.sizeOf191
 v53:=Tryz.zeroValue191
 t131:=Tryz.underlying297
 a131:=Tryz.isAgg297
 z131:=Tryz.sizeOf297
 v131:=Tryz.zeroValue297
 t182:=Tryz.underlying321
 a182:=Tryz.isAgg321
 z182:=Tryz.sizeOf321
 v182:=Tryz.zeroValue321
 t183:=Tryz.underlying322
 a183:=Tryz.isAgg322
 z183:=Tryz.sizeOf322
 v183:=Tryz.zeroValue322
 t218:=Tryz.underlying336
 a218:=Tryz.isAgg336
 z218:=Tryz.sizeOf336
 v218:=Tryz.zeroValue336
 t222:=Tryz.underlying318
 a222:=Tryz.isAgg318
 z222:=Tryz.sizeOf318
 v222:=Tryz.zeroValue318
 t228:=Tryz.underlying346
 a228:=Tryz.isAgg346
 z228:=Tryz.sizeOf346
 v228:=Tryz.zeroValue346
 t229:=Tryz.underlying211
 a229:=Tryz.isAgg211
 z229:=Tryz.sizeOf211
 v229:=Tryz.zeroValue211}
open Go.Sort Go.RowKit in
theorem Tryz.sort_Ints (blk off cap:Nat) (zs:List Int) (w:World) (hH:Holds (Value.int .i64) w blk off zs.toArray) (hblk:blk<w.heap.size) (hsz:zs.length<4611686018427387904):
  Calls Tryz.prog 106 #[.slice (some ⟨blk,off,none⟩) zs.length cap] w fun e w'=>
   e= .returned (.tuple #[])/\∃n os,w'=grow (putRow (Value.int .i64) (Sort.ahead w n) blk off (zs.mergeSort fun x y=>decide (x<=y)).toArray) os:=Any.sort_Ints Tryz.lays191 blk off cap zs w hH hblk hsz
open Go.RowKit Go.Sort in
theorem Tryz.sort_Ints_none (p:Option Addr) (cap:Nat) (w:World):
  Calls Tryz.prog 106 #[.slice p 0 cap] w fun e w'=>e= .returned (.tuple #[])/\w'=w:=Any.sort_Ints_none Tryz.lays191 p cap w
end Go.Proofs
namespace Go.Proofs.YtgfldnaahojnlaaGreatDoor
end Go.Proofs.YtgfldnaahojnlaaGreatDoor
