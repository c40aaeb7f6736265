/- MatchFinds: part 47. -/
import Derived.Test.YtgfldnaahojnlaaGreatDoorF46
set_option maxRecDepth 100000
set_option maxHeartbeats 4000000
namespace Go.Proofs.YtgfldnaahojnlaaGreatDoor
section
open Go.RowKit
theorem NI {lt:Pl->Pl->Bool} {a i j i2 j2:Nat} {d:Array Pl} (h1:Sort.scanUp (fun x=>lt x d[a]!) d j i=i2) (h2:Sort.scanDown (fun x=> !lt x d[a]!) d i2 j=j2) (h:i2 > j2):Sort.partLoop lt a i j d=(j2,d):=by
 rw[Sort.partLoop];simp only[h1,h2];rw[if_pos h]
theorem Wh {lt:Pl->Pl->Bool} {a i j i2 j2:Nat} {d:Array Pl} (h1:Sort.scanUp (fun x=>lt x d[a]!) d j i=i2) (h2:Sort.scanDown (fun x=> !lt x d[a]!) d i2 j=j2) (h:¬i2 > j2) (hi:i<=i2) (hj:j2<=j) (h0:1<=i2):Sort.partLoop lt a i j d=Sort.partLoop lt a (i2+1) (j2-1) (Sort.swp d i2 j2):=by
 rw[Sort.partLoop];simp only[h1,h2];rw[if_neg h,dif_pos (by omega)]
def JQ (lt:Pl->Pl->Bool) (a i j:Nat) (d:Array Pl):Nat×Bool×Array Pl:=
 let i2:=Sort.scanUp (fun x=>lt x d[a]!) d j i
 let j2:=Sort.scanDown (fun x=> !lt x d[a]!) d i2 j
 if i2 > j2 then(j2,true,Sort.swp d j2 a)else
  let r:=Sort.partLoop lt a (i2+1) (j2-1) (Sort.swp d i2 j2)
  (r.1,false,Sort.swp r.2 r.1 a)
theorem NH {lt:Pl->Pl->Bool} {a i j i2 j2:Nat} {d:Array Pl} (h1:Sort.scanUp (fun x=>lt x d[a]!) d j i=i2) (h2:Sort.scanDown (fun x=> !lt x d[a]!) d i2 j=j2) (h:i2 > j2):JQ lt a i j d=(j2,true,Sort.swp d j2 a):=by
 simp only[JQ,h1,h2];rw[if_pos h]
theorem Uc {lt:Pl->Pl->Bool} {a i j i2 j2:Nat} {d:Array Pl} (h1:Sort.scanUp (fun x=>lt x d[a]!) d j i=i2) (h2:Sort.scanDown (fun x=> !lt x d[a]!) d i2 j=j2) (h:¬i2 > j2):
  JQ lt a i j d=((Sort.partLoop lt a (i2+1) (j2-1) (Sort.swp d i2 j2)).1,false,Sort.swp (Sort.partLoop lt a (i2+1) (j2-1) (Sort.swp d i2 j2)).2 (Sort.partLoop lt a (i2+1) (j2-1) (Sort.swp d i2 j2)).1 a):=by
 simp only[JQ,h1,h2];rw[if_neg h]
set_option maxHeartbeats 8000000
theorem Mr (s:Sl) (d:Array Pl) (w:World) (h:SS s d w) (a b pv:Nat) (hab:a<b) (hb:b<=s.n) (hp:pv<s.n):
  Calls Tryz.prog 216 #[.agg #[(Value.func (.func 104) #[] #[.pointer (some ⟨s.Bs,0,none⟩)]),(Value.func (.func s.sf) #[] s.sb)],.int .i64 a,.int .i64 b,.int .i64 pv] w fun e w'=>
   e= .returned (.tuple #[.int .i64 (Sort.partition ltB d a b pv).1,.bool (Sort.partition ltB d a b pv).2.1])/\SS s (Sort.partition ltB d a b pv).2.2 w'/\w.grownBy w' (some s.blk):=by
 have hn:=h.2.2.2.1.2.2.2;have HE:Hid (SE s w.heap.size w d (w.alloc (.cells #[(Value.func (.func 104) #[] #[.pointer (some ⟨s.Bs,0,none⟩)]),(Value.func (.func s.sf) #[] s.sb)] 242))):=SE.box h;clear h;obtain⟨R,hR⟩:∃R,Sort.partition ltB d a b pv=R:=⟨_,rfl⟩;have HR:Hid (JQ ltB a (a+1) (b-1) (Sort.swp d a pv)=R):=hR;rw[hR];clear hR;go_enter Tryz.func216,Tryz.ntmps216
 go_wp2_with (fail)
 refine AL HE.out a pv (by omega) (by omega) (by omega) (by omega) ?_;intro w1 he1;rw[Oper.upon_value];have HE1:Hid _:=he1;clear he1 HE;go_wp2;obtain⟨i,hi0⟩:∃i,i=a+1:=⟨_,rfl⟩;obtain⟨j,hj0⟩:∃j,j=b-1:=⟨_,rfl⟩;have hij:i<=j+2:=by omega
 have hai:a+1<=i:=by omega
 have hjb:j<b:=by omega
 rw[<-hi0,<-hj0]at HR;rw[show((b:Int)-1)=(j:Int) by omega,show((a:Int)+1)=(i:Int) by omega];clear hi0 hj0;generalize Sort.swp d a pv=dk at *;have HE:Hid _:=HE1.out;clear HE1;go_loopw [10] (fun vi wr=>∃(i':Nat),vi= .int .i64 i'/\i<=i'/\i'<=j+2/\Hid (SE s w.heap.size w dk wr/\Sort.scanUp (fun x=>ltB x dk[a]!) dk j i'=Sort.scanUp (fun x=>ltB x dk[a]!) dk j i)) (fun vi _=>j+1-(intOf vi).toNat)
 case atStart=>exact⟨i,rfl,Nat.le_refl _,by omega,HE.out,rfl⟩
 case round=>
  clear HE;obtain⟨i2,rfl,hi2,hi3,hy⟩:=hrel;obtain⟨c0,c1⟩:=hy.out.1.1;have HE:Hid _:=hy.out.1;have HU:Hid _:=hy.out.2;clear hy
  by_cases hc:i2<=j
  ·have q1:(i2:Int)<=(j:Int):=by omega
   obtain⟨lb,hlb⟩:∃lb,ltB dk[i2]! dk[a]! =lb:=⟨_,rfl⟩;have HL:Hid _:=hlb
   cases lb
   ·have HS:Hid (Sort.scanUp (fun x=>ltB x dk[a]!) dk j i=i2):=by
     show _=_;rw[<-HU.out,Gt (.inr (by simp[hlb]))]
    clear HU hlb
    go_wp2_with (go_at_call 104;refine(Au HE.out (i2) (a) (by omega) (by omega) _ HL.out (by omega) (by omega)).mono ?_;rintro e w4 ⟨rfl,he4⟩;have k1:=he4.1.1;have k2:=he4.1.2;have HE:Hid _:=he4;clear he4)
    clear HL;go_loopw [11] (fun vj wr=>∃(j':Nat),vj= .int .i64 j'/\j'<=j/\Hid (SE s w.heap.size w dk wr/\Sort.scanDown (fun x=> !ltB x dk[a]!) dk i2 j'=Sort.scanDown (fun x=> !ltB x dk[a]!) dk i2 j)) (fun vj _=>(intOf vj).toNat)
    case atStart=>exact⟨j,rfl,Nat.le_refl _,HE.out,rfl⟩
    case round=>
     clear HE;obtain⟨j2,rfl,hj2,hy⟩:=hrel;obtain⟨c0,c1⟩:=hy.out.1.1;have HE:Hid _:=hy.out.1;have HD:Hid _:=hy.out.2;clear hy
     by_cases hc:i2<=j2
     ·have q1:(i2:Int)<=(j2:Int):=by omega
      have q2:¬(j2:Int)<(i2:Int):=by omega
      obtain⟨lb,hlb⟩:∃lb,ltB dk[j2]! dk[a]! =lb:=⟨_,rfl⟩;have HL:Hid _:=hlb
      cases lb
      ·have HD2:Hid _:=(MD (p:=(fun x=> !ltB x dk[a]!)) (by omega) hc (by simp[hlb])).symm.trans HD.out
       clear HD hlb
       go_wp2_with (go_at_call 104;refine(Au HE.out (j2) (a) (by omega) (by omega) _ HL.out (by omega) (by omega)).mono ?_;rintro e w4 ⟨rfl,he4⟩;have k1:=he4.1.1;have k2:=he4.1.2;have HE:Hid _:=he4;clear he4)
       go_roundw
       case rel=>exact⟨j2-1,by congr 1;omega,by omega,HE.out,HD2.out⟩
       case measure=>simp[intOf];omega
      ·have HT:Hid (Sort.scanDown (fun x=> !ltB x dk[a]!) dk i2 j=j2):=by
        show _=_;rw[<-HD.out,CO (.inr (by simp[hlb]))]
       clear HD hlb
       go_wp2_with (go_at_call 104;refine(Au HE.out (j2) (a) (by omega) (by omega) _ HL.out (by omega) (by omega)).mono ?_;rintro e w4 ⟨rfl,he4⟩;have k1:=he4.1.1;have k2:=he4.1.2;have HE:Hid _:=he4;clear he4)
       clear HL;obtain⟨Q,hQ⟩:∃Q,Sort.partLoop ltB a (i2+1) (j2-1) (Sort.swp dk i2 j2)=Q:=⟨_,rfl⟩;have HW:Hid _:=hQ
       have HQ:Hid ((Q.1,false,Sort.swp Q.2 Q.1 a)=R):=by
        show _=_;rw[<-HR.out,Uc HS.out HT.out (by omega),hQ]
       clear hQ HS HT HR;refine AL HE.out i2 j2 (by omega) (by omega) (by omega) (by omega) ?_;intro w5 he5;rw[Oper.upon_value];have HE5:Hid _:=he5;clear he5;go_wp2;go_loopw [10,11] (fun vi vj wr=>∃(i j:Nat) (dk:Array Pl),vi= .int .i64 i/\vj= .int .i64 j/\a+1<=i/\j<b/\i<=j+2/\Hid (SE s w.heap.size w dk wr/\Sort.partLoop ltB a i j dk=Q)) (fun _ vj _=>(intOf vj).toNat)
       case atStart=>exact⟨i2+1,j2-1,_,by go_num,by congr 1;omega,by omega,by omega,by omega,HE5.out,HW.out⟩
       case round=>
        clear HE5 HW hi2 hi3 hj2 hij hc q1 q2;clear HE;obtain⟨i,j,dk,rfl,rfl,hai,hjb,hij,hz⟩:=hrel;have HE:Hid _:=hz.out.1;have HZ:Hid _:=hz.out.2;clear hz;go_wp2;go_loopw [10] (fun vi wr=>∃(i':Nat),vi= .int .i64 i'/\i<=i'/\i'<=j+2/\Hid (SE s w.heap.size w dk wr/\Sort.scanUp (fun x=>ltB x dk[a]!) dk j i'=Sort.scanUp (fun x=>ltB x dk[a]!) dk j i)) (fun vi _=>j+1-(intOf vi).toNat)
        case atStart=>exact⟨i,rfl,Nat.le_refl _,by omega,HE.out,rfl⟩
        case round=>
         clear HE;obtain⟨i2,rfl,hi2,hi3,hy⟩:=hrel;obtain⟨c0,c1⟩:=hy.out.1.1;have HE:Hid _:=hy.out.1;have HU:Hid _:=hy.out.2;clear hy
         by_cases hc:i2<=j
         ·have q1:(i2:Int)<=(j:Int):=by omega
          obtain⟨lb,hlb⟩:∃lb,ltB dk[i2]! dk[a]! =lb:=⟨_,rfl⟩;have HL:Hid _:=hlb
          cases lb
          ·have HS:Hid (Sort.scanUp (fun x=>ltB x dk[a]!) dk j i=i2):=by
            show _=_;rw[<-HU.out,Gt (.inr (by simp[hlb]))]
           clear HU hlb
           go_wp2_with (go_at_call 104;refine(Au HE.out (i2) (a) (by omega) (by omega) _ HL.out (by omega) (by omega)).mono ?_;rintro e w4 ⟨rfl,he4⟩;have k1:=he4.1.1;have k2:=he4.1.2;have HE:Hid _:=he4;clear he4)
           clear HL;go_loopw [11] (fun vj wr=>∃(j':Nat),vj= .int .i64 j'/\j'<=j/\Hid (SE s w.heap.size w dk wr/\Sort.scanDown (fun x=> !ltB x dk[a]!) dk i2 j'=Sort.scanDown (fun x=> !ltB x dk[a]!) dk i2 j)) (fun vj _=>(intOf vj).toNat)
           case atStart=>exact⟨j,rfl,Nat.le_refl _,HE.out,rfl⟩
           case round=>
            clear HE;obtain⟨j2,rfl,hj2,hy⟩:=hrel;obtain⟨c0,c1⟩:=hy.out.1.1;have HE:Hid _:=hy.out.1;have HD:Hid _:=hy.out.2;clear hy
            by_cases hc:i2<=j2
            ·have q1:(i2:Int)<=(j2:Int):=by omega
             have q2:¬(j2:Int)<(i2:Int):=by omega
             obtain⟨lb,hlb⟩:∃lb,ltB dk[j2]! dk[a]! =lb:=⟨_,rfl⟩;have HL:Hid _:=hlb
             cases lb
             ·have HD2:Hid _:=(MD (p:=(fun x=> !ltB x dk[a]!)) (by omega) hc (by simp[hlb])).symm.trans HD.out
              clear HD hlb
              go_wp2_with (go_at_call 104;refine(Au HE.out (j2) (a) (by omega) (by omega) _ HL.out (by omega) (by omega)).mono ?_;rintro e w4 ⟨rfl,he4⟩;have k1:=he4.1.1;have k2:=he4.1.2;have HE:Hid _:=he4;clear he4)
              go_roundw
              case rel=>exact⟨j2-1,by congr 1;omega,by omega,HE.out,HD2.out⟩
              case measure=>simp[intOf];omega
             ·have HT:Hid (Sort.scanDown (fun x=> !ltB x dk[a]!) dk i2 j=j2):=by
               show _=_;rw[<-HD.out,CO (.inr (by simp[hlb]))]
              clear HD hlb
              go_wp2_with (go_at_call 104;refine(Au HE.out (j2) (a) (by omega) (by omega) _ HL.out (by omega) (by omega)).mono ?_;rintro e w4 ⟨rfl,he4⟩;have k1:=he4.1.1;have k2:=he4.1.2;have HE:Hid _:=he4;clear he4)
              clear HL
              have HX:Hid (Sort.partLoop ltB a (i2+1) (j2-1) (Sort.swp dk i2 j2)=Q):=by
               show _=_;rw[<-HZ.out,Wh HS.out HT.out (by omega) (by omega) (by omega) (by omega)]
              clear HS HT HZ;refine AL HE.out i2 j2 (by omega) (by omega) (by omega) (by omega) ?_;intro w5 he5;rw[Oper.upon_value];have HE5:Hid _:=he5;clear he5;go_wp2;go_roundw
              case rel=>exact⟨i2+1,j2-1,_,by go_num,by congr 1;omega,by omega,by omega,by omega,HE5.out,HX.out⟩
              case measure=>simp[intOf];omega
            ·have q1:¬(i2:Int)<=(j2:Int):=by omega
             have q2:(j2:Int)<(i2:Int):=by omega
             have HT:Hid (Sort.scanDown (fun x=> !ltB x dk[a]!) dk i2 j=j2):=by
              show _=_;rw[<-HD.out,CO (.inl hc)]
             clear HD;go_wp2_with fail
             have HX:Hid ((j2,false,Sort.swp dk j2 a)=R):=by
              show _=_;rw[<-HQ.out,<-HZ.out,NI HS.out HT.out (by omega)]
             clear HS HT HZ;refine AL HE.out j2 a (by omega) (by omega) (by omega) (by omega) ?_;intro w5 he5;rw[Oper.upon_value];have HE5:Hid _:=he5;clear he5;go_wp2;go_ret2;rw[<-HX.out];exact⟨rfl,HE5.out.2.2.1,HE5.out.2.2.2⟩
          ·have HU2:Hid _:=(Tq (p:=(fun x=>ltB x dk[a]!)) hc (by simp[hlb])).symm.trans HU.out
           clear HU hlb
           go_wp2_with (go_at_call 104;refine(Au HE.out (i2) (a) (by omega) (by omega) _ HL.out (by omega) (by omega)).mono ?_;rintro e w4 ⟨rfl,he4⟩;have k1:=he4.1.1;have k2:=he4.1.2;have HE:Hid _:=he4;clear he4)
           go_roundw
           case rel=>exact⟨i2+1,by go_num,by omega,by omega,HE.out,HU2.out⟩
           case measure=>simp[intOf];omega
         ·have q1:¬(i2:Int)<=(j:Int):=by omega
          have HS:Hid (Sort.scanUp (fun x=>ltB x dk[a]!) dk j i=i2):=by
           show _=_;rw[<-HU.out,Gt (.inl hc)]
          clear HU;go_wp2;go_loopw [11] (fun vj wr=>∃(j':Nat),vj= .int .i64 j'/\j'<=j/\Hid (SE s w.heap.size w dk wr/\Sort.scanDown (fun x=> !ltB x dk[a]!) dk i2 j'=Sort.scanDown (fun x=> !ltB x dk[a]!) dk i2 j)) (fun vj _=>(intOf vj).toNat)
          case atStart=>exact⟨j,rfl,Nat.le_refl _,HE.out,rfl⟩
          case round=>
           clear HE;obtain⟨j2,rfl,hj2,hy⟩:=hrel;obtain⟨c0,c1⟩:=hy.out.1.1;have HE:Hid _:=hy.out.1;have HD:Hid _:=hy.out.2;clear hy
           by_cases hc:i2<=j2
           ·exact absurd hc (by omega)
           ·have q1:¬(i2:Int)<=(j2:Int):=by omega
            have q2:(j2:Int)<(i2:Int):=by omega
            have HT:Hid (Sort.scanDown (fun x=> !ltB x dk[a]!) dk i2 j=j2):=by
             show _=_;rw[<-HD.out,CO (.inl hc)]
            clear HD;go_wp2_with fail
            have HX:Hid ((j2,false,Sort.swp dk j2 a)=R):=by
             show _=_;rw[<-HQ.out,<-HZ.out,NI HS.out HT.out (by omega)]
            clear HS HT HZ;refine AL HE.out j2 a (by omega) (by omega) (by omega) (by omega) ?_;intro w5 he5;rw[Oper.upon_value];have HE5:Hid _:=he5;clear he5;go_wp2;go_ret2;rw[<-HX.out];exact⟨rfl,HE5.out.2.2.1,HE5.out.2.2.2⟩
     ·have q1:¬(i2:Int)<=(j2:Int):=by omega
      have q2:(j2:Int)<(i2:Int):=by omega
      have HT:Hid (Sort.scanDown (fun x=> !ltB x dk[a]!) dk i2 j=j2):=by
       show _=_;rw[<-HD.out,CO (.inl hc)]
      clear HD;go_wp2_with fail
      have HX:Hid ((j2,true,Sort.swp dk j2 a)=R):=by
       show _=_;rw[<-HR.out,NH HS.out HT.out (by omega)]
      clear HS HT HR;refine AL HE.out j2 a (by omega) (by omega) (by omega) (by omega) ?_;intro w5 he5;rw[Oper.upon_value];have HE5:Hid _:=he5;clear he5;go_wp2;go_ret2;rw[<-HX.out];exact⟨rfl,HE5.out.2.2.1,HE5.out.2.2.2⟩
   ·have HU2:Hid _:=(Tq (p:=(fun x=>ltB x dk[a]!)) hc (by simp[hlb])).symm.trans HU.out
    clear HU hlb
    go_wp2_with (go_at_call 104;refine(Au HE.out (i2) (a) (by omega) (by omega) _ HL.out (by omega) (by omega)).mono ?_;rintro e w4 ⟨rfl,he4⟩;have k1:=he4.1.1;have k2:=he4.1.2;have HE:Hid _:=he4;clear he4)
    go_roundw
    case rel=>exact⟨i2+1,by go_num,by omega,by omega,HE.out,HU2.out⟩
    case measure=>simp[intOf];omega
  ·have q1:¬(i2:Int)<=(j:Int):=by omega
   have HS:Hid (Sort.scanUp (fun x=>ltB x dk[a]!) dk j i=i2):=by
    show _=_;rw[<-HU.out,Gt (.inl hc)]
   clear HU;go_wp2;go_loopw [11] (fun vj wr=>∃(j':Nat),vj= .int .i64 j'/\j'<=j/\Hid (SE s w.heap.size w dk wr/\Sort.scanDown (fun x=> !ltB x dk[a]!) dk i2 j'=Sort.scanDown (fun x=> !ltB x dk[a]!) dk i2 j)) (fun vj _=>(intOf vj).toNat)
   case atStart=>exact⟨j,rfl,Nat.le_refl _,HE.out,rfl⟩
   case round=>
    clear HE;obtain⟨j2,rfl,hj2,hy⟩:=hrel;obtain⟨c0,c1⟩:=hy.out.1.1;have HE:Hid _:=hy.out.1;have HD:Hid _:=hy.out.2;clear hy
    by_cases hc:i2<=j2
    ·exact absurd hc (by omega)
    ·have q1:¬(i2:Int)<=(j2:Int):=by omega
     have q2:(j2:Int)<(i2:Int):=by omega
     have HT:Hid (Sort.scanDown (fun x=> !ltB x dk[a]!) dk i2 j=j2):=by
      show _=_;rw[<-HD.out,CO (.inl hc)]
     clear HD;go_wp2_with fail
     have HX:Hid ((j2,true,Sort.swp dk j2 a)=R):=by
      show _=_;rw[<-HR.out,NH HS.out HT.out (by omega)]
     clear HS HT HR;refine AL HE.out j2 a (by omega) (by omega) (by omega) (by omega) ?_;intro w5 he5;rw[Oper.upon_value];have HE5:Hid _:=he5;clear he5;go_wp2;go_ret2;rw[<-HX.out];exact⟨rfl,HE5.out.2.2.1,HE5.out.2.2.2⟩
end
end Go.Proofs.YtgfldnaahojnlaaGreatDoor
