/- MatchFinds: part 45. -/
import Derived.Test.YtgfldnaahojnlaaGreatDoorF44
set_option maxRecDepth 100000
set_option maxHeartbeats 4000000
namespace Go.Proofs.YtgfldnaahojnlaaGreatDoor
section
open Go.RowKit
theorem Au {s:Sl} {B:Nat} {w:World} {d:Array Pl} {wx:World} (h:SE s B w d wx) (i j:Nat) (hi:i<s.n) (hj:j<s.n) (b:Bool) (hb:ltB d[i]! d[j]! =b) {x y:Int} (hx:x=i) (hy:y=j):
  Calls Tryz.prog 104 #[.int .i64 x,.int .i64 y,.pointer (some ⟨s.Bs,0,none⟩)] wx fun e w'=>e= .returned (.bool b)/\SE s B w d w':=by
 subst hx hy;exact Q9 s B w d wx h i j hi hj b hb
theorem AL {s:Sl} {B:Nat} {w:World} {d:Array Pl} {wx:World} (h:SE s B w d wx) (i j:Nat) (hi:i<s.n) (hj:j<s.n) {op:Oper} {act:Act} {K:Act->World->Prop} {Q:Exit->Act->World->Prop} {x y:Int} (hx:x=i) (hy:y=j)
  (k:∀wy,SE s B w (Sort.swp d i j) wy->Oper.upon Tryz.prog op act K Q (.ok (.value (.tuple #[])) wy)):Oper.upon Tryz.prog op act K Q ((callFunc s.sf (#[.int .i64 x,.int .i64 y]++s.sb)).run Tryz.prog wx):=by
 subst hx hy;have hq:=Ql h i j hi hj
 cases hq with
 |intro wy hq=>rw[hq.1];exact k wy hq.2
theorem TH {lt:Pl->Pl->Bool} (hi first root:Nat) (d:Array Pl) (h:2 * root+1>=hi):Sort.siftDown lt hi first root d=d:=by rw[Sort.siftDown,dif_pos h]
theorem VV {lt:Pl->Pl->Bool} (hi first root ch:Nat) (d:Array Pl) (h:¬2 * root+1>=hi) (hc:ch=if 2 * root+2<hi/\lt d[first+(2 * root+1)]! d[first+(2 * root+2)]! =true then 2 * root+2 else 2 * root+1):
  Sort.siftDown lt hi first root d=if lt d[first+root]! d[first+ch]! =true then Sort.siftDown lt hi first ch (Sort.swp d (first+root) (first+ch))else d:=by
 rw[Sort.siftDown,dif_neg h];subst hc
 by_cases h2:2 * root+2<hi/\lt d[first+(2 * root+1)]! d[first+(2 * root+2)]! =true
 ·rw[if_pos h2,if_pos (by simp only[Bool.and_eq_true,decide_eq_true_eq];exact⟨by omega,h2.2⟩),dif_pos h2.1]
  cases lt d[first+root]! d[first+(2 * root+2)]! <;>simp
 ·rw[if_neg h2,if_neg (by simp only[Bool.and_eq_true,decide_eq_true_eq];exact fun h=>h2 ⟨by omega,h.2⟩)]
  cases lt d[first+root]! d[first+(2 * root+1)]! <;>simp
set_option maxHeartbeats 2000000
theorem VU (s:Sl) (d:Array Pl) (w:World) (h:SS s d w) (lo hi first:Nat) (hb:first+hi<=s.n) (hlo:lo<=s.n):
  Calls Tryz.prog 234 #[.agg #[(Value.func (.func 104) #[] #[.pointer (some ⟨s.Bs,0,none⟩)]),(Value.func (.func s.sf) #[] s.sb)],.int .i64 lo,.int .i64 hi,.int .i64 first] w fun e w'=>e= .returned (.tuple #[])/\SS s (Sort.siftDown ltB hi first lo d) w'/\w.grownBy w' (some s.blk):=by
 have hn:=h.2.2.2.1.2.2.2;have HE:Hid (SE s w.heap.size w d (w.alloc (.cells #[(Value.func (.func 104) #[] #[.pointer (some ⟨s.Bs,0,none⟩)]),(Value.func (.func s.sf) #[] s.sb)] 242))):=SE.box h;clear h;go_enter Tryz.func234,Tryz.ntmps234;go_wp2;go_loopw [8] (fun vi wr=>∃(r:Nat) (dk:Array Pl),vi= .int .i64 r/\r<=s.n/\Hid (SE s w.heap.size w dk wr/\Sort.siftDown ltB hi first r dk=Sort.siftDown ltB hi first lo d)) (fun vi _=>s.n-(intOf vi).toNat)
 case atStart=>exact⟨lo,d,rfl,hlo,HE.out,rfl⟩
 case round=>
  clear HE;obtain⟨r,dk,rfl,hr,hz⟩:=hrel;obtain⟨⟨c0,c1⟩,_⟩:=hz.out.1;have HE:Hid (SE s w.heap.size w dk wr):=hz.out.1;have HZ:Hid (Sort.siftDown ltB hi first r dk=Sort.siftDown ltB hi first lo d):=hz.out.2;clear hz
  by_cases hge:2 * r+1>=hi
  ·have i1:(hi:Int)<=2 * (r:Int)+1:=by omega
   have HX:Hid (dk=Sort.siftDown ltB hi first lo d):=by
    have e:=HZ.out;rw[TH _ _ _ _ hge]at e;exact e
   clear HZ;go_wp2;go_end0;exact⟨rfl,by rw[<-HX.out];exact HE.out.2.2.1,HE.out.2.2.2⟩
  ·have i1:¬(hi:Int)<=2 * (r:Int)+1:=by omega
   obtain⟨ch,hch⟩:∃ch,ch=if 2 * r+2<hi/\ltB dk[first+(2 * r+1)]! dk[first+(2 * r+2)]! =true then 2 * r+2 else 2 * r+1:=⟨_,rfl⟩;have HG:Hid _:=(VV hi first r ch dk hge hch).symm.trans HZ.out;clear HZ;obtain⟨l1,hl1⟩:∃b,ltB dk[first+(2 * r+1)]! dk[first+(2 * r+2)]! =b:=⟨_,rfl⟩;obtain⟨l2,hl2⟩:∃b,ltB dk[first+r]! dk[first+ch]! =b:=⟨_,rfl⟩;have H1:Hid _:=hl1;have H2:Hid _:=hl2;have hcc:ch=2 * r+1\/(ch=2 * r+2/\2 * r+2<hi):=by rw[hch];split;exact .inr ⟨rfl,by omega⟩;exact .inl rfl
   by_cases h2:2 * r+2<hi
   ·have i2:2 * (r:Int)+1+1<(hi:Int):=by omega
    cases l1
    ·have e:ch=2 * r+1:=by rw[hch,if_neg (by rw[hl1];simp)]
     subst e;clear hch hcc hl1 hl2
     cases l2
     ·have HX:Hid (dk=Sort.siftDown ltB hi first lo d):=by
       have e:=HG.out;rw[if_neg (by rw[H2.out];simp)]at e;exact e
      clear HG
      go_wp2_with (go_at_call 104;(first|refine(Au HE.out (first+(2 * r+1)) (first+(2 * r+2)) (by omega) (by omega) _ H1.out (by omega) (by omega)).mono ?_|refine(Au HE.out (first+r) (first+(2 * r+1)) (by omega) (by omega) _ H2.out (by omega) (by omega)).mono ?_);rintro e w1 ⟨rfl,he1⟩;have k1:=he1.1;have HE:Hid _:=he1;clear he1;obtain⟨k1,k2⟩:=k1)
      (try simp only[Exit.inBlock,Exit.then])
      refine bodyPost_ret (results_none rfl _ _ _) rfl ?_;exact⟨rfl,by rw[<-HX.out];exact HE.out.2.2.1,HE.out.2.2.2⟩
     ·have HX:Hid (Sort.siftDown ltB hi first (2 * r+1) (Sort.swp dk (first+r) (first+(2 * r+1)))=Sort.siftDown ltB hi first lo d):=by
       have e:=HG.out;rw[if_pos H2.out]at e;exact e
      clear HG
      go_wp2_with (go_at_call 104;(first|refine(Au HE.out (first+(2 * r+1)) (first+(2 * r+2)) (by omega) (by omega) _ H1.out (by omega) (by omega)).mono ?_|refine(Au HE.out (first+r) (first+(2 * r+1)) (by omega) (by omega) _ H2.out (by omega) (by omega)).mono ?_);rintro e w1 ⟨rfl,he1⟩;have k1:=he1.1;have HE:Hid _:=he1;clear he1;obtain⟨k1,k2⟩:=k1)
      refine AL HE.out (first+r) (first+(2 * r+1)) (by omega) (by omega) (by omega) (by omega) ?_;intro w2 he2;rw[Oper.upon_value];have HE2:Hid _:=he2;clear he2;go_wp2;go_roundw
      case rel=>exact⟨2 * r+1,_,by go_num,by omega,HE2.out,HX.out⟩
      case measure=>simp[intOf];omega
    ·have e:ch=2 * r+2:=by rw[hch,if_pos ⟨h2,hl1⟩]
     subst e;clear hch hcc hl1 hl2
     cases l2
     ·have HX:Hid (dk=Sort.siftDown ltB hi first lo d):=by
       have e:=HG.out;rw[if_neg (by rw[H2.out];simp)]at e;exact e
      clear HG
      go_wp2_with (go_at_call 104;(first|refine(Au HE.out (first+(2 * r+1)) (first+(2 * r+2)) (by omega) (by omega) _ H1.out (by omega) (by omega)).mono ?_|refine(Au HE.out (first+r) (first+(2 * r+2)) (by omega) (by omega) _ H2.out (by omega) (by omega)).mono ?_);rintro e w1 ⟨rfl,he1⟩;have k1:=he1.1;have HE:Hid _:=he1;clear he1;obtain⟨k1,k2⟩:=k1)
      (try simp only[Exit.inBlock,Exit.then])
      refine bodyPost_ret (results_none rfl _ _ _) rfl ?_;exact⟨rfl,by rw[<-HX.out];exact HE.out.2.2.1,HE.out.2.2.2⟩
     ·have HX:Hid (Sort.siftDown ltB hi first (2 * r+2) (Sort.swp dk (first+r) (first+(2 * r+2)))=Sort.siftDown ltB hi first lo d):=by
       have e:=HG.out;rw[if_pos H2.out]at e;exact e
      clear HG
      go_wp2_with (go_at_call 104;(first|refine(Au HE.out (first+(2 * r+1)) (first+(2 * r+2)) (by omega) (by omega) _ H1.out (by omega) (by omega)).mono ?_|refine(Au HE.out (first+r) (first+(2 * r+2)) (by omega) (by omega) _ H2.out (by omega) (by omega)).mono ?_);rintro e w1 ⟨rfl,he1⟩;have k1:=he1.1;have HE:Hid _:=he1;clear he1;obtain⟨k1,k2⟩:=k1)
      refine AL HE.out (first+r) (first+(2 * r+2)) (by omega) (by omega) (by omega) (by omega) ?_;intro w2 he2;rw[Oper.upon_value];have HE2:Hid _:=he2;clear he2;go_wp2;go_roundw
      case rel=>exact⟨2 * r+2,_,by go_num,by omega,HE2.out,HX.out⟩
      case measure=>simp[intOf];omega
   ·have i2:¬2 * (r:Int)+1+1<(hi:Int):=by omega
    have e:ch=2 * r+1:=by omega
    subst e;clear hch hcc hl1 hl2
    cases l2
    ·have HX:Hid (dk=Sort.siftDown ltB hi first lo d):=by
      have e:=HG.out;rw[if_neg (by rw[H2.out];simp)]at e;exact e
     clear HG
     go_wp2_with (go_at_call 104;refine((Au HE.out (first+r) (first+(2 * r+1)) (by omega) (by omega) _ H2.out (by omega) (by omega))).mono ?_;rintro e w1 ⟨rfl,he1⟩;have k1:=he1.1;have HE:Hid _:=he1;clear he1;obtain⟨k1,k2⟩:=k1)
     (try simp only[Exit.inBlock,Exit.then])
     refine bodyPost_ret (results_none rfl _ _ _) rfl ?_;exact⟨rfl,by rw[<-HX.out];exact HE.out.2.2.1,HE.out.2.2.2⟩
    ·have HX:Hid (Sort.siftDown ltB hi first (2 * r+1) (Sort.swp dk (first+r) (first+(2 * r+1)))=Sort.siftDown ltB hi first lo d):=by
      have e:=HG.out;rw[if_pos H2.out]at e;exact e
     clear HG
     go_wp2_with (go_at_call 104;refine((Au HE.out (first+r) (first+(2 * r+1)) (by omega) (by omega) _ H2.out (by omega) (by omega))).mono ?_;rintro e w1 ⟨rfl,he1⟩;have k1:=he1.1;have HE:Hid _:=he1;clear he1;obtain⟨k1,k2⟩:=k1)
     refine AL HE.out (first+r) (first+(2 * r+1)) (by omega) (by omega) (by omega) (by omega) ?_;intro w2 he2;rw[Oper.upon_value];have HE2:Hid _:=he2;clear he2;go_wp2;go_roundw
     case rel=>exact⟨2 * r+1,_,by go_num,by omega,HE2.out,HX.out⟩
     case measure=>simp[intOf];omega
end
end Go.Proofs.YtgfldnaahojnlaaGreatDoor
