/- MatchFinds: part 48. -/
import Derived.Test.YtgfldnaahojnlaaGreatDoorF47
set_option maxRecDepth 100000
set_option maxHeartbeats 4000000
namespace Go.Proofs.YtgfldnaahojnlaaGreatDoor
section
open Go.RowKit
theorem Yx {lt:Pl->Pl->Bool} {d:Array Pl} {b i:Nat} (h:i<b) (hl:lt d[i]! d[i-1]! =false):Sort.scanSorted lt d b i=Sort.scanSorted lt d b (i+1):=by
 rw[Sort.scanSorted,if_pos (by simp only[Bool.and_eq_true,decide_eq_true_eq];exact⟨h,by simp[hl]⟩)]
theorem Qs {lt:Pl->Pl->Bool} {d:Array Pl} {b i:Nat} (h:¬i<b\/lt d[i]! d[i-1]! =true):Sort.scanSorted lt d b i=i:=by
 rw[Sort.scanSorted,if_neg];simp only[Bool.and_eq_true,decide_eq_true_eq];rintro⟨h1,h2⟩;rcases h with h|h
 ·exact h h1
 ·rw[h]at h2;cases h2
theorem Yw {lt:Pl->Pl->Bool} {d:Array Pl} {j:Nat} (h:1<=j) (hl:lt d[j]! d[j-1]! =true):Sort.shiftDown lt j d=Sort.shiftDown lt (j-1) (Sort.swp d j (j-1)):=by
 obtain⟨k,rfl⟩:∃k,j=k+1:=⟨j-1,by omega⟩;rw[Nat.add_sub_cancel]at hl ⊢;rw[Sort.shiftDown,hl];rfl
theorem Qr {lt:Pl->Pl->Bool} {d:Array Pl} {j:Nat} (h:j=0\/lt d[j]! d[j-1]! =false):Sort.shiftDown lt j d=d:=by
 cases j with
 |zero=>rw[Sort.shiftDown]
 |succ k=>
  rcases h with h|h
  ·omega
  ·rw[Nat.add_sub_cancel]at h
   rw[Sort.shiftDown,h];rfl
theorem TC {lt:Pl->Pl->Bool} {d:Array Pl} {b j:Nat} (h:j<b) (hl:lt d[j]! d[j-1]! =true):Sort.shiftUp lt b j d=Sort.shiftUp lt b (j+1) (Sort.swp d j (j-1)):=by
 rw[Sort.shiftUp,if_pos h,hl];rfl
theorem Gv {lt:Pl->Pl->Bool} {d:Array Pl} {b j:Nat} (h:¬j<b\/lt d[j]! d[j-1]! =false):Sort.shiftUp lt b j d=d:=by
 rw[Sort.shiftUp]
 by_cases hj:j<b
 ·rw[if_pos hj]
  rcases h with h|h
  ·exact absurd hj h
  ·rw[h];rfl
 ·rw[if_neg hj]
theorem We {lt:Pl->Pl->Bool} {d:Array Pl} {a b m i i2:Nat} (h:Sort.scanSorted lt d b i=i2) (he:i2=b):Sort.partialIns lt a b (m+1) i d=(d,true):=by
 simp only[Sort.partialIns,h];rw[if_pos he]
theorem TY {lt:Pl->Pl->Bool} {d:Array Pl} {a b m i i2:Nat} (h:Sort.scanSorted lt d b i=i2) (he:¬i2=b) (hs:b-a<50):Sort.partialIns lt a b (m+1) i d=(d,false):=by
 simp only[Sort.partialIns,h];rw[if_neg he,if_pos hs]
theorem Y0 {lt:Pl->Pl->Bool} {d:Array Pl} {a b m i i2:Nat} (h:Sort.scanSorted lt d b i=i2) (he:¬i2=b) (hs:¬b-a<50):
  Sort.partialIns lt a b (m+1) i d=Sort.partialIns lt a b m i2 (if b-i2>=2 then Sort.shiftUp lt b (i2+1) (if i2-a>=2 then Sort.shiftDown lt (i2-1) (Sort.swp d i2 (i2-1))else Sort.swp d i2 (i2-1))else(if i2-a>=2 then Sort.shiftDown lt (i2-1) (Sort.swp d i2 (i2-1))else Sort.swp d i2 (i2-1))):=by
 rw[Sort.partialIns];simp only[h];rw[if_neg he,if_neg hs]
set_option maxHeartbeats 8000000
theorem Pm (s:Sl) (d:Array Pl) (w:World) (h:SS s d w) (a b:Nat) (hab:a<b) (hb:b<=s.n):
  Calls Tryz.prog 214 #[.agg #[(Value.func (.func 104) #[] #[.pointer (some ⟨s.Bs,0,none⟩)]),(Value.func (.func s.sf) #[] s.sb)],.int .i64 a,.int .i64 b] w fun e w'=>
   e= .returned (.bool (Sort.partialInsertionSort ltB d a b).2)/\SS s (Sort.partialInsertionSort ltB d a b).1 w'/\w.grownBy w' (some s.blk):=by
 have hn:=h.2.2.2.1.2.2.2;have HE:Hid (SE s w.heap.size w d (w.alloc (.cells #[(Value.func (.func 104) #[] #[.pointer (some ⟨s.Bs,0,none⟩)]),(Value.func (.func s.sf) #[] s.sb)] 242))):=SE.box h;clear h;obtain⟨R,hR⟩:∃R,Sort.partialInsertionSort ltB d a b=R:=⟨_,rfl⟩;have HR:Hid (Sort.partialIns ltB a b 5 (a+1) d=R):=hR;rw[hR];clear hR;go_enter Tryz.func214,Tryz.ntmps214;go_wp2;go_loopw [8,7] (fun vk vi wr=>∃(k i:Nat) (dk:Array Pl),vk= .int .i64 k/\vi= .int .i64 i/\k<=5/\a+1<=i/\i<=b/\Hid (SE s w.heap.size w dk wr/\Sort.partialIns ltB a b (5-k) i dk=R)) (fun vk _ _=>5-(intOf vk).toNat)
 case atStart=>exact⟨0,a+1,d,rfl,by go_num,by omega,by omega,by omega,HE.out,HR.out⟩
 case round=>
  clear HE HR;obtain⟨k,i,dk,rfl,rfl,hk,hai,hib,hz⟩:=hrel
  by_cases hk5:k<5
  ·have q0:(k:Int)<5:=by omega
   have HZ:Hid _:=hz.out.2;have HE:Hid _:=hz.out.1;clear hz;go_wp2;go_loopw [7] (fun vi wr=>∃(i':Nat),vi= .int .i64 i'/\i<=i'/\i'<=b/\Hid (SE s w.heap.size w dk wr/\Sort.scanSorted ltB dk b i'=Sort.scanSorted ltB dk b i)) (fun vi _=>b-(intOf vi).toNat)
   case atStart=>exact⟨i,rfl,Nat.le_refl _,hib,HE.out,rfl⟩
   case round=>
    clear HE;obtain⟨i2,rfl,hi2,hi3,hy⟩:=hrel;obtain⟨c0,c1⟩:=hy.out.1.1;have HE:Hid _:=hy.out.1
    by_cases hc:i2<b
    ·have q1:(i2:Int)<(b:Int):=by omega
     obtain⟨lb,hlb⟩:∃lb,ltB dk[i2]! dk[i2-1]! =lb:=⟨_,rfl⟩;have HL:Hid _:=hlb
     cases lb
     ·have HU2:Hid _:=(Yx hc hlb).symm.trans hy.out.2
      clear hy hlb
      go_wp2_with (go_at_call 104;refine(Au HE.out (i2) (i2-1) (by omega) (by omega) _ HL.out (by omega) (by omega)).mono ?_;rintro e w4 ⟨rfl,he4⟩;have k1:=he4.1.1;have k2:=he4.1.2;have HE:Hid _:=he4;clear he4)
      go_roundw
      case rel=>exact⟨i2+1,by go_num,by omega,by omega,HE.out,HU2.out⟩
      case measure=>simp[intOf];omega
     ·have HS:Hid (Sort.scanSorted ltB dk b i=i2):=by
       show _=_;rw[<-hy.out.2,Qs (.inr hlb)]
      clear hy hlb;have hend:¬i2=b:=by omega
      have e1':((i2:Int) == (b:Int))=false:=by simp;omega
      by_cases h50:b-a<50
      ·have e2:(b:Int)-a<50:=by omega
       have HX:Hid ((dk,false)=R):=by
        show _=_;rw[<-HZ.out,show 5-k=(5-(k+1))+1 by omega,TY HS.out hend h50]
       clear HZ HS
       go_wp2_with (go_at_call 104;refine(Au HE.out (i2) (i2-1) (by omega) (by omega) _ HL.out (by omega) (by omega)).mono ?_;rintro e w4 ⟨rfl,he4⟩;have k1:=he4.1.1;have k2:=he4.1.2;have HE:Hid _:=he4;clear he4)
       go_ret;rw[<-HX.out];exact⟨rfl,HE.out.2.2.1,HE.out.2.2.2⟩
      ·have e2:¬(b:Int)-a<50:=by omega
       have HG:Hid (Sort.partialIns ltB a b (5-(k+1)) i2 (if b-i2>=2 then Sort.shiftUp ltB b (i2+1) (if i2-a>=2 then Sort.shiftDown ltB (i2-1) (Sort.swp dk i2 (i2-1))else(Sort.swp dk i2 (i2-1)))else(if i2-a>=2 then Sort.shiftDown ltB (i2-1) (Sort.swp dk i2 (i2-1))else(Sort.swp dk i2 (i2-1))))=R):=by
        show _=_;rw[<-HZ.out,show 5-k=(5-(k+1))+1 by omega,Y0 HS.out hend h50]
       clear HZ HS
       go_wp2_with (go_at_call 104;refine(Au HE.out (i2) (i2-1) (by omega) (by omega) _ HL.out (by omega) (by omega)).mono ?_;rintro e w4 ⟨rfl,he4⟩;have k1:=he4.1.1;have k2:=he4.1.2;have HE:Hid _:=he4;clear he4)
       refine AL HE.out (i2) (i2-1) (by omega) (by omega) (by omega) (by omega) ?_;intro w5 he5;rw[Oper.upon_value];obtain⟨k1,k2⟩:=he5.1;have HE:Hid _:=he5;clear he5
       by_cases hd:i2-a>=2
       ·have d1:(2:Int)<=(i2:Int)-a:=by omega
        have HU:Hid (Sort.partialIns ltB a b (5-(k+1)) i2 (if b-i2>=2 then Sort.shiftUp ltB b (i2+1) (Sort.shiftDown ltB (i2-1) (Sort.swp dk i2 (i2-1)))else(Sort.shiftDown ltB (i2-1) (Sort.swp dk i2 (i2-1))))=R):=by
         have e:=HG.out;rw[if_pos hd]at e;exact e
        clear HG;go_wp2;go_loopw [9] (fun vj wr=>∃(j:Nat) (dj:Array Pl),vj= .int .i64 j/\j<=i2-1/\Hid (SE s w.heap.size w dj wr/\Sort.partialIns ltB a b (5-(k+1)) i2 (if b-i2>=2 then Sort.shiftUp ltB b (i2+1) (Sort.shiftDown ltB j dj)else(Sort.shiftDown ltB j dj))=R)) (fun vj _=>(intOf vj).toNat)
        case atStart=>exact⟨i2-1,_,by congr 1;omega,by omega,HE.out,HU.out⟩
        case round=>
         clear HE HU;obtain⟨j,dj,rfl,hj1,hy⟩:=hrel;obtain⟨c0,c1⟩:=hy.out.1.1;have HE:Hid _:=hy.out.1
         by_cases hj0:1<=j
         ·have q1:(1:Int)<=(j:Int):=by omega
          obtain⟨lb,hlb⟩:∃lb,ltB dj[j]! dj[j-1]! =lb:=⟨_,rfl⟩;have HL:Hid _:=hlb
          cases lb
          ·have HV:Hid (Sort.partialIns ltB a b (5-(k+1)) i2 (if b-i2>=2 then Sort.shiftUp ltB b (i2+1) dj else dj)=R):=by
            have e:=hy.out.2;rw[Qr (.inr hlb)]at e;exact e
           clear hy hlb
           by_cases hu:b-i2>=2
           ·have u1:(2:Int)<=(b:Int)-i2:=by omega
            have HU:Hid (Sort.partialIns ltB a b (5-(k+1)) i2 (Sort.shiftUp ltB b (i2+1) dj)=R):=by
             have e:=HV.out;rw[if_pos hu]at e;exact e
            clear HV
            go_wp2_with (go_at_call 104;refine(Au HE.out (j) (j-1) (by omega) (by omega) _ HL.out (by omega) (by omega)).mono ?_;rintro e w4 ⟨rfl,he4⟩;have k1:=he4.1.1;have k2:=he4.1.2;have HE:Hid _:=he4;clear he4)
            go_loopw [10] (fun vj wr=>∃(j:Nat) (dj:Array Pl),vj= .int .i64 j/\i2+1<=j/\j<=b/\Hid (SE s w.heap.size w dj wr/\Sort.partialIns ltB a b (5-(k+1)) i2 (Sort.shiftUp ltB b j dj)=R)) (fun vj _=>b-(intOf vj).toNat)
            case atStart=>exact⟨i2+1,dj,by go_num,by omega,by omega,HE.out,HU.out⟩
            case round=>
             clear HE HU;obtain⟨j,dj,rfl,hj1,hj2,hy⟩:=hrel;obtain⟨c0,c1⟩:=hy.out.1.1;have HE:Hid _:=hy.out.1
             by_cases hjb:j<b
             ·have q1:(j:Int)<(b:Int):=by omega
              obtain⟨lb,hlb⟩:∃lb,ltB dj[j]! dj[j-1]! =lb:=⟨_,rfl⟩;have HL:Hid _:=hlb
              cases lb
              ·have HX:Hid (Sort.partialIns ltB a b (5-(k+1)) i2 dj=R):=by
                have e:=hy.out.2;rw[Gv (.inr hlb)]at e;exact e
               clear hy hlb
               go_wp2_with (go_at_call 104;refine(Au HE.out (j) (j-1) (by omega) (by omega) _ HL.out (by omega) (by omega)).mono ?_;rintro e w4 ⟨rfl,he4⟩;have k1:=he4.1.1;have k2:=he4.1.2;have HE:Hid _:=he4;clear he4)
               go_roundw
               case rel=>exact⟨k+1,i2,_,by go_num,rfl,by omega,by omega,by omega,HE.out,HX.out⟩
               case measure=>simp[intOf];omega
              ·have HX:Hid (Sort.partialIns ltB a b (5-(k+1)) i2 (Sort.shiftUp ltB b (j+1) (Sort.swp dj j (j-1)))=R):=by
                have e:=hy.out.2;rw[TC hjb hlb]at e;exact e
               clear hy hlb
               go_wp2_with (go_at_call 104;refine(Au HE.out (j) (j-1) (by omega) (by omega) _ HL.out (by omega) (by omega)).mono ?_;rintro e w4 ⟨rfl,he4⟩;have k1:=he4.1.1;have k2:=he4.1.2;have HE:Hid _:=he4;clear he4)
               refine AL HE.out (j) (j-1) (by omega) (by omega) (by omega) (by omega) ?_;intro w5 he5;rw[Oper.upon_value];obtain⟨k1,k2⟩:=he5.1;have HE:Hid _:=he5;clear he5;go_wp2;go_roundw
               case rel=>exact⟨j+1,_,by go_num,by omega,by omega,HE.out,HX.out⟩
               case measure=>simp[intOf];omega
             ·have q1:¬(j:Int)<(b:Int):=by omega
              have HX:Hid (Sort.partialIns ltB a b (5-(k+1)) i2 dj=R):=by
               have e:=hy.out.2;rw[Gv (.inl hjb)]at e;exact e
              clear hy;go_wp2;go_roundw
              case rel=>exact⟨k+1,i2,_,by go_num,rfl,by omega,by omega,by omega,HE.out,HX.out⟩
              case measure=>simp[intOf];omega
           ·have u1:¬(2:Int)<=(b:Int)-i2:=by omega
            have u2:decide ((2:Int)<=(b:Int)-i2)=false:=by simp;omega
            have HX:Hid (Sort.partialIns ltB a b (5-(k+1)) i2 dj=R):=by
             have e:=HV.out;rw[if_neg hu]at e;exact e
            clear HV
            go_wp2_with (go_at_call 104;refine(Au HE.out (j) (j-1) (by omega) (by omega) _ HL.out (by omega) (by omega)).mono ?_;rintro e w4 ⟨rfl,he4⟩;have k1:=he4.1.1;have k2:=he4.1.2;have HE:Hid _:=he4;clear he4)
            go_roundw
            case rel=>exact⟨k+1,i2,_,by go_num,rfl,by omega,by omega,by omega,HE.out,HX.out⟩
            case measure=>simp[intOf];omega
          ·have HX:Hid (Sort.partialIns ltB a b (5-(k+1)) i2 (if b-i2>=2 then Sort.shiftUp ltB b (i2+1) (Sort.shiftDown ltB (j-1) (Sort.swp dj j (j-1)))else(Sort.shiftDown ltB (j-1) (Sort.swp dj j (j-1))))=R):=by
            have e:=hy.out.2;rw[Yw hj0 hlb]at e;exact e
           clear hy hlb
           go_wp2_with (go_at_call 104;refine(Au HE.out (j) (j-1) (by omega) (by omega) _ HL.out (by omega) (by omega)).mono ?_;rintro e w4 ⟨rfl,he4⟩;have k1:=he4.1.1;have k2:=he4.1.2;have HE:Hid _:=he4;clear he4)
           refine AL HE.out (j) (j-1) (by omega) (by omega) (by omega) (by omega) ?_;intro w5 he5;rw[Oper.upon_value];obtain⟨k1,k2⟩:=he5.1;have HE:Hid _:=he5;clear he5;go_wp2;go_roundw
           case rel=>exact⟨j-1,_,by congr 1;omega,by omega,HE.out,HX.out⟩
           case measure=>simp[intOf];omega
         ·have q1:¬(1:Int)<=(j:Int):=by omega
          have HV:Hid (Sort.partialIns ltB a b (5-(k+1)) i2 (if b-i2>=2 then Sort.shiftUp ltB b (i2+1) dj else dj)=R):=by
           have e:=hy.out.2;rw[Qr (.inl (by omega))]at e;exact e
          clear hy
          by_cases hu:b-i2>=2
          ·have u1:(2:Int)<=(b:Int)-i2:=by omega
           have HU:Hid (Sort.partialIns ltB a b (5-(k+1)) i2 (Sort.shiftUp ltB b (i2+1) dj)=R):=by
            have e:=HV.out;rw[if_pos hu]at e;exact e
           clear HV;go_wp2;go_loopw [10] (fun vj wr=>∃(j:Nat) (dj:Array Pl),vj= .int .i64 j/\i2+1<=j/\j<=b/\Hid (SE s w.heap.size w dj wr/\Sort.partialIns ltB a b (5-(k+1)) i2 (Sort.shiftUp ltB b j dj)=R)) (fun vj _=>b-(intOf vj).toNat)
           case atStart=>exact⟨i2+1,dj,by go_num,by omega,by omega,HE.out,HU.out⟩
           case round=>
            clear HE HU;obtain⟨j,dj,rfl,hj1,hj2,hy⟩:=hrel;obtain⟨c0,c1⟩:=hy.out.1.1;have HE:Hid _:=hy.out.1
            by_cases hjb:j<b
            ·have q1:(j:Int)<(b:Int):=by omega
             obtain⟨lb,hlb⟩:∃lb,ltB dj[j]! dj[j-1]! =lb:=⟨_,rfl⟩;have HL:Hid _:=hlb
             cases lb
             ·have HX:Hid (Sort.partialIns ltB a b (5-(k+1)) i2 dj=R):=by
               have e:=hy.out.2;rw[Gv (.inr hlb)]at e;exact e
              clear hy hlb
              go_wp2_with (go_at_call 104;refine(Au HE.out (j) (j-1) (by omega) (by omega) _ HL.out (by omega) (by omega)).mono ?_;rintro e w4 ⟨rfl,he4⟩;have k1:=he4.1.1;have k2:=he4.1.2;have HE:Hid _:=he4;clear he4)
              go_roundw
              case rel=>exact⟨k+1,i2,_,by go_num,rfl,by omega,by omega,by omega,HE.out,HX.out⟩
              case measure=>simp[intOf];omega
             ·have HX:Hid (Sort.partialIns ltB a b (5-(k+1)) i2 (Sort.shiftUp ltB b (j+1) (Sort.swp dj j (j-1)))=R):=by
               have e:=hy.out.2;rw[TC hjb hlb]at e;exact e
              clear hy hlb
              go_wp2_with (go_at_call 104;refine(Au HE.out (j) (j-1) (by omega) (by omega) _ HL.out (by omega) (by omega)).mono ?_;rintro e w4 ⟨rfl,he4⟩;have k1:=he4.1.1;have k2:=he4.1.2;have HE:Hid _:=he4;clear he4)
              refine AL HE.out (j) (j-1) (by omega) (by omega) (by omega) (by omega) ?_;intro w5 he5;rw[Oper.upon_value];obtain⟨k1,k2⟩:=he5.1;have HE:Hid _:=he5;clear he5;go_wp2;go_roundw
              case rel=>exact⟨j+1,_,by go_num,by omega,by omega,HE.out,HX.out⟩
              case measure=>simp[intOf];omega
            ·have q1:¬(j:Int)<(b:Int):=by omega
             have HX:Hid (Sort.partialIns ltB a b (5-(k+1)) i2 dj=R):=by
              have e:=hy.out.2;rw[Gv (.inl hjb)]at e;exact e
             clear hy;go_wp2;go_roundw
             case rel=>exact⟨k+1,i2,_,by go_num,rfl,by omega,by omega,by omega,HE.out,HX.out⟩
             case measure=>simp[intOf];omega
          ·have u1:¬(2:Int)<=(b:Int)-i2:=by omega
           have u2:decide ((2:Int)<=(b:Int)-i2)=false:=by simp;omega
           have HX:Hid (Sort.partialIns ltB a b (5-(k+1)) i2 dj=R):=by
            have e:=HV.out;rw[if_neg hu]at e;exact e
           clear HV;go_wp2;go_roundw
           case rel=>exact⟨k+1,i2,_,by go_num,rfl,by omega,by omega,by omega,HE.out,HX.out⟩
           case measure=>simp[intOf];omega
       ·have d1:¬(2:Int)<=(i2:Int)-a:=by omega
        have d2:decide ((2:Int)<=(i2:Int)-a)=false:=by simp;omega
        have HV:Hid (Sort.partialIns ltB a b (5-(k+1)) i2 (if b-i2>=2 then Sort.shiftUp ltB b (i2+1) (Sort.swp dk i2 (i2-1))else(Sort.swp dk i2 (i2-1)))=R):=by
         have e:=HG.out;rw[if_neg hd]at e;exact e
        clear HG
        by_cases hu:b-i2>=2
        ·have u1:(2:Int)<=(b:Int)-i2:=by omega
         have HU:Hid (Sort.partialIns ltB a b (5-(k+1)) i2 (Sort.shiftUp ltB b (i2+1) (Sort.swp dk i2 (i2-1)))=R):=by
          have e:=HV.out;rw[if_pos hu]at e;exact e
         clear HV;go_wp2;go_loopw [10] (fun vj wr=>∃(j:Nat) (dj:Array Pl),vj= .int .i64 j/\i2+1<=j/\j<=b/\Hid (SE s w.heap.size w dj wr/\Sort.partialIns ltB a b (5-(k+1)) i2 (Sort.shiftUp ltB b j dj)=R)) (fun vj _=>b-(intOf vj).toNat)
         case atStart=>exact⟨i2+1,(Sort.swp dk i2 (i2-1)),by go_num,by omega,by omega,HE.out,HU.out⟩
         case round=>
          clear HE HU;obtain⟨j,dj,rfl,hj1,hj2,hy⟩:=hrel;obtain⟨c0,c1⟩:=hy.out.1.1;have HE:Hid _:=hy.out.1
          by_cases hjb:j<b
          ·have q1:(j:Int)<(b:Int):=by omega
           obtain⟨lb,hlb⟩:∃lb,ltB dj[j]! dj[j-1]! =lb:=⟨_,rfl⟩;have HL:Hid _:=hlb
           cases lb
           ·have HX:Hid (Sort.partialIns ltB a b (5-(k+1)) i2 dj=R):=by
             have e:=hy.out.2;rw[Gv (.inr hlb)]at e;exact e
            clear hy hlb
            go_wp2_with (go_at_call 104;refine(Au HE.out (j) (j-1) (by omega) (by omega) _ HL.out (by omega) (by omega)).mono ?_;rintro e w4 ⟨rfl,he4⟩;have k1:=he4.1.1;have k2:=he4.1.2;have HE:Hid _:=he4;clear he4)
            go_roundw
            case rel=>exact⟨k+1,i2,_,by go_num,rfl,by omega,by omega,by omega,HE.out,HX.out⟩
            case measure=>simp[intOf];omega
           ·have HX:Hid (Sort.partialIns ltB a b (5-(k+1)) i2 (Sort.shiftUp ltB b (j+1) (Sort.swp dj j (j-1)))=R):=by
             have e:=hy.out.2;rw[TC hjb hlb]at e;exact e
            clear hy hlb
            go_wp2_with (go_at_call 104;refine(Au HE.out (j) (j-1) (by omega) (by omega) _ HL.out (by omega) (by omega)).mono ?_;rintro e w4 ⟨rfl,he4⟩;have k1:=he4.1.1;have k2:=he4.1.2;have HE:Hid _:=he4;clear he4)
            refine AL HE.out (j) (j-1) (by omega) (by omega) (by omega) (by omega) ?_;intro w5 he5;rw[Oper.upon_value];obtain⟨k1,k2⟩:=he5.1;have HE:Hid _:=he5;clear he5;go_wp2;go_roundw
            case rel=>exact⟨j+1,_,by go_num,by omega,by omega,HE.out,HX.out⟩
            case measure=>simp[intOf];omega
          ·have q1:¬(j:Int)<(b:Int):=by omega
           have HX:Hid (Sort.partialIns ltB a b (5-(k+1)) i2 dj=R):=by
            have e:=hy.out.2;rw[Gv (.inl hjb)]at e;exact e
           clear hy;go_wp2;go_roundw
           case rel=>exact⟨k+1,i2,_,by go_num,rfl,by omega,by omega,by omega,HE.out,HX.out⟩
           case measure=>simp[intOf];omega
        ·have u1:¬(2:Int)<=(b:Int)-i2:=by omega
         have u2:decide ((2:Int)<=(b:Int)-i2)=false:=by simp;omega
         have HX:Hid (Sort.partialIns ltB a b (5-(k+1)) i2 (Sort.swp dk i2 (i2-1))=R):=by
          have e:=HV.out;rw[if_neg hu]at e;exact e
         clear HV;go_wp2;go_roundw
         case rel=>exact⟨k+1,i2,_,by go_num,rfl,by omega,by omega,by omega,HE.out,HX.out⟩
         case measure=>simp[intOf];omega
    ·have q1:¬(i2:Int)<(b:Int):=by omega
     have HS:Hid (Sort.scanSorted ltB dk b i=i2):=by
      show _=_;rw[<-hy.out.2,Qs (.inl hc)]
     clear hy;go_wp2_with fail;have hend:i2=b:=by omega
     have e1':((i2:Int) == (b:Int))=true:=by simp;omega
     have HX:Hid ((dk,true)=R):=by
      show _=_;rw[<-HZ.out,show 5-k=(5-(k+1))+1 by omega,We HS.out hend]
     clear HZ HS hend;go_wp2;go_ret;rw[<-HX.out];exact⟨rfl,HE.out.2.2.1,HE.out.2.2.2⟩
  ·have e:k=5:=by omega
   subst e;have HX:Hid ((dk,false)=R):=hz.out.2;have HE:Hid _:=hz.out.1;clear hz;go_wp2;go_ret;rw[<-HX.out];exact⟨rfl,HE.out.2.2.1,HE.out.2.2.2⟩
end
end Go.Proofs.YtgfldnaahojnlaaGreatDoor
