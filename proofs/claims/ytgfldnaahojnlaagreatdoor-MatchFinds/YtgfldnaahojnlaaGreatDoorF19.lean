/- MatchFinds: part 19. -/
import Derived.Test.YtgfldnaahojnlaaGreatDoorF18
set_option maxRecDepth 100000
set_option maxHeartbeats 4000000
namespace Go.Proofs.YtgfldnaahojnlaaGreatDoor
section
open Go.RowKit
def rnF:Nat->Nat->Nat->List UInt8->Nat×Nat
 |0,_,_,_=>(0,0)
 |_+1,_,_,[]=>(0,0)
 |f+1,i,acc,c::l=>
  if c.toNat<128 then(if 0<i/\c.toNat=0 then(0,0)else(acc+c.toNat * 128 ^ i,i+1))else rnF f (i+1) (acc+c.toNat % 128 * 128 ^ i) l
def rnL (l:List UInt8):Nat×Nat:=rnF 5 0 0 l
theorem SH (s:ByteArray) (k:Nat) (h:k<s.size):s.data.toList.drop k=s[k]::s.data.toList.drop (k+1):=by
 rw[List.drop_eq_getElem_cons (by simpa using h)];simp;rfl
theorem Ug (a b:Nat) (ha:a<4611686018427387904) (hb:b<4611686018427387904):bits .or .i64 (a:Int) (b:Int)=((a ||| b:Nat):Int):=by
 have hx:a ||| b<2 ^ 62:=Nat.or_lt_two_pow (by omega) (by omega)
 show IntKind.i64.wrap ((BitVec.ofInt 64 (a:Int) ||| BitVec.ofInt 64 (b:Int)).toNat:Int)=_;have ea:(BitVec.ofInt 64 (a:Int)).toNat=a:=by rw[BitVec.toNat_ofInt];omega
 have eb:(BitVec.ofInt 64 (b:Int)).toNat=b:=by rw[BitVec.toNat_ofInt];omega
 rw[BitVec.toNat_or,ea,eb,IntKind.wrap_i64];omega
theorem XL (n v j:Nat) (hn:n<2 ^ j):n ||| v * 2 ^ j=n+v * 2 ^ j:=by
 have:=Nat.shiftLeft_add_eq_or_of_lt (i:=j) hn v;rw[Nat.shiftLeft_eq]at this;rw[Nat.or_comm,<-this,Nat.add_comm]
theorem CR (k n x M:Nat) (hk:k<=4) (hM:128 ^ k=M) (hn:n<M):bits .or .i64 (n:Int) ((x:Int) % 128 * (M:Int))=((n+x % 128 * M:Nat):Int):=by
 have hM2:M=2 ^ (7 * k):=by rw[<-hM,Nat.pow_mul]
 have hM3:M<=268435456:=by
  have h5:k=0\/k=1\/k=2\/k=3\/k=4:=by omega
  rcases h5 with rfl|rfl|rfl|rfl|rfl<;>omega
 have hv:x % 128 * M<=127 * M:=Nat.mul_le_mul_right _ (by omega);have e:((x:Int) % 128 * (M:Int))=((x % 128 * M:Nat):Int):=by simp
 rw[e,Ug _ _ (by omega) (by omega)];rw[hM2]at hn ⊢;rw[XL n (x % 128) (7 * k) hn]
theorem DK (k n x:Nat) (s:ByteArray) (h:k<s.size) (h5:k<5) (hx:s[k].toNat=x):rnF (5-k) k n (s.data.toList.drop k)=
  if x<128 then(if 0<k/\x=0 then(0,0)else(n+x * 128 ^ k,k+1))else rnF (5-(k+1)) (k+1) (n+x % 128 * 128 ^ k) (s.data.toList.drop (k+1)):=by
 rw[SH s k h,show 5-k=(5-(k+1))+1 by omega,rnF,hx]
set_option maxHeartbeats 2000000
theorem Mm (s:ByteArray) (w:World) (hs:s.size<=1000000):
  Calls Tryz.prog 178 #[.string s] w fun e w'=>e= .returned (.tuple #[.int .i64 (rnL s.data.toList).1,.int .i64 (rnL s.data.toList).2])/\w'=w:=by
 obtain⟨R,hR⟩:∃R,rnL s.data.toList=R:=⟨_,rfl⟩;have HR:Hid (rnF (5-0) 0 0 (s.data.toList.drop 0)=R):=hR;rw[hR];clear hR
 by_cases h5:(5:Int)<(s.size:Int)
 ·skip
  go_enter Tryz.func178,Tryz.ntmps178;go_wp2
  go_loop [4,9] (fun x i=>∃k n:Nat,k<=s.size/\k<=5/\n<128 ^ k/\x= .int .i64 n/\i= .int .i64 k/\Hid (rnF (5-k) k n (s.data.toList.drop k)=R)) (fun _ i=>5-(intOf i).toNat)
  case atStart=>exact⟨0,0,Nat.zero_le _,by omega,by omega,rfl,rfl,HR⟩
  case round=>
   clear HR;obtain⟨k,n,hk,hk5,hn,rfl,rfl,hz⟩:=hrel
   by_cases hlt:k<s.size/\k<5
   ·obtain⟨h1,h2⟩:=hlt
    have hx:=UInt8.toNat_lt s[k];obtain⟨x,hy⟩:∃x,s[k].toNat=x:=⟨_,rfl⟩;rw[hy]at hx;have hk':k=0\/k=1\/k=2\/k=3\/k=4:=by omega
    rcases hk' with rfl|rfl|rfl|rfl|rfl
    ·have hM:n<1:=hn
     have hor:=CR 0 n x 1 (by omega) (by decide) hM;simp only[Int.natCast_one,Int.mul_one,Nat.mul_one]at hor;have hst:=DK 0 n x s h1 h2 hy;have HZ:Hid _:=hst.symm.trans hz.out;clear hst hz
     by_cases hc:x<128
     ·rw[if_pos hc]at HZ
      rw[if_neg (by omega)]at HZ;have HR:Hid (R=(n+x,1)):=by show _=_;rw[<-HZ.out];simp
      clear HZ;go_wp2;go_ret2;rw[HR.out];exact⟨by simp;omega,rfl⟩
     ·rw[if_neg hc]at HZ
      go_wp2
      go_round
      case rel=>exact⟨1,n+x % 128 * 1,by omega,by omega,by omega,by simp,by go_num,HZ⟩
      case measure=>simp[intOf]
    ·have hM:n<128:=hn
     have hor:bits .or .i64 (n:Int) ((x:Int) % 128 * 128)=((n+x % 128 * 128:Nat):Int):=CR 1 n x 128 (by omega) (by decide) hM;have hst:=DK 1 n x s h1 h2 hy;have HZ:Hid _:=hst.symm.trans hz.out;clear hst hz
     by_cases hc:x<128
     ·rw[if_pos hc]at HZ
      by_cases hc0:x=0
      ·rw[if_pos ⟨by omega,hc0⟩]at HZ
       have hb0:((x:Int) == 0)=true:=by simp[hc0]
       clear hc0;have HR:Hid (R=(0,0)):=HZ.out.symm;clear HZ;go_wp2;go_ret2;rw[HR.out];exact⟨by simp,rfl⟩
      ·rw[if_neg (by omega)]at HZ
       have hb0:((x:Int) == 0)=false:=by simp[hc0]
       have HR:Hid (R=(n+x * 128,2)):=by show _=_;rw[<-HZ.out]
       clear HZ;go_wp2;go_ret2;rw[HR.out];exact⟨by simp;omega,rfl⟩
     ·rw[if_neg hc]at HZ
      go_wp2
      go_round
      case rel=>exact⟨2,n+x % 128 * 128,by omega,by omega,by omega,by simp,by go_num,HZ⟩
      case measure=>simp[intOf]
    ·have hM:n<16384:=hn
     have hor:bits .or .i64 (n:Int) ((x:Int) % 128 * 16384)=((n+x % 128 * 16384:Nat):Int):=CR 2 n x 16384 (by omega) (by decide) hM;have hst:=DK 2 n x s h1 h2 hy;have HZ:Hid _:=hst.symm.trans hz.out;clear hst hz
     by_cases hc:x<128
     ·rw[if_pos hc]at HZ
      by_cases hc0:x=0
      ·rw[if_pos ⟨by omega,hc0⟩]at HZ
       have hb0:((x:Int) == 0)=true:=by simp[hc0]
       clear hc0;have HR:Hid (R=(0,0)):=HZ.out.symm;clear HZ;go_wp2;go_ret2;rw[HR.out];exact⟨by simp,rfl⟩
      ·rw[if_neg (by omega)]at HZ
       have hb0:((x:Int) == 0)=false:=by simp[hc0]
       have HR:Hid (R=(n+x * 16384,3)):=by show _=_;rw[<-HZ.out]
       clear HZ;go_wp2;go_ret2;rw[HR.out];exact⟨by simp;omega,rfl⟩
     ·rw[if_neg hc]at HZ
      go_wp2
      go_round
      case rel=>exact⟨3,n+x % 128 * 16384,by omega,by omega,by omega,by simp,by go_num,HZ⟩
      case measure=>simp[intOf]
    ·have hM:n<2097152:=hn
     have hor:bits .or .i64 (n:Int) ((x:Int) % 128 * 2097152)=((n+x % 128 * 2097152:Nat):Int):=CR 3 n x 2097152 (by omega) (by decide) hM;have hst:=DK 3 n x s h1 h2 hy;have HZ:Hid _:=hst.symm.trans hz.out;clear hst hz
     by_cases hc:x<128
     ·rw[if_pos hc]at HZ
      by_cases hc0:x=0
      ·rw[if_pos ⟨by omega,hc0⟩]at HZ
       have hb0:((x:Int) == 0)=true:=by simp[hc0]
       clear hc0;have HR:Hid (R=(0,0)):=HZ.out.symm;clear HZ;go_wp2;go_ret2;rw[HR.out];exact⟨by simp,rfl⟩
      ·rw[if_neg (by omega)]at HZ
       have hb0:((x:Int) == 0)=false:=by simp[hc0]
       have HR:Hid (R=(n+x * 2097152,4)):=by show _=_;rw[<-HZ.out]
       clear HZ;go_wp2;go_ret2;rw[HR.out];exact⟨by simp;omega,rfl⟩
     ·rw[if_neg hc]at HZ
      go_wp2
      go_round
      case rel=>exact⟨4,n+x % 128 * 2097152,by omega,by omega,by omega,by simp,by go_num,HZ⟩
      case measure=>simp[intOf]
    ·have hM:n<268435456:=hn
     have hor:bits .or .i64 (n:Int) ((x:Int) % 128 * 268435456)=((n+x % 128 * 268435456:Nat):Int):=CR 4 n x 268435456 (by omega) (by decide) hM;have hst:=DK 4 n x s h1 h2 hy;have HZ:Hid _:=hst.symm.trans hz.out;clear hst hz
     by_cases hc:x<128
     ·rw[if_pos hc]at HZ
      by_cases hc0:x=0
      ·rw[if_pos ⟨by omega,hc0⟩]at HZ
       have hb0:((x:Int) == 0)=true:=by simp[hc0]
       clear hc0;have HR:Hid (R=(0,0)):=HZ.out.symm;clear HZ;go_wp2;go_ret2;rw[HR.out];exact⟨by simp,rfl⟩
      ·rw[if_neg (by omega)]at HZ
       have hb0:((x:Int) == 0)=false:=by simp[hc0]
       have HR:Hid (R=(n+x * 268435456,5)):=by show _=_;rw[<-HZ.out]
       clear HZ;go_wp2;go_ret2;rw[HR.out];exact⟨by simp;omega,rfl⟩
     ·rw[if_neg hc]at HZ
      go_wp2
      go_round
      case rel=>exact⟨5,n+x % 128 * 268435456,by omega,by omega,by omega,by simp,by go_num,HZ⟩
      case measure=>simp[intOf]
   ·have e:R=(0,0):=by
     have h:=hz.out
     by_cases h5:k=5
     ·subst h5;exact h.symm
     ·rw[List.drop_eq_nil_of_le (by simp;omega)]at h
      rw[<-h];have:5-k=(4-k)+1:=by omega
      rw[this];rfl
    subst e;have hm:(5:Int)<=(k:Int):=by omega
    go_wp2;go_ret2;exact⟨by simp,rfl⟩
 ·skip
  go_enter Tryz.func178,Tryz.ntmps178;go_wp2
  go_loop [4,9] (fun x i=>∃k n:Nat,k<=s.size/\k<=5/\n<128 ^ k/\x= .int .i64 n/\i= .int .i64 k/\Hid (rnF (5-k) k n (s.data.toList.drop k)=R)) (fun _ i=>5-(intOf i).toNat)
  case atStart=>exact⟨0,0,Nat.zero_le _,by omega,by omega,rfl,rfl,HR⟩
  case round=>
   clear HR;obtain⟨k,n,hk,hk5,hn,rfl,rfl,hz⟩:=hrel
   by_cases hlt:k<s.size/\k<5
   ·obtain⟨h1,h2⟩:=hlt
    have hx:=UInt8.toNat_lt s[k];obtain⟨x,hy⟩:∃x,s[k].toNat=x:=⟨_,rfl⟩;rw[hy]at hx;have hk':k=0\/k=1\/k=2\/k=3\/k=4:=by omega
    rcases hk' with rfl|rfl|rfl|rfl|rfl
    ·have hM:n<1:=hn
     have hor:=CR 0 n x 1 (by omega) (by decide) hM;simp only[Int.natCast_one,Int.mul_one,Nat.mul_one]at hor;have hst:=DK 0 n x s h1 h2 hy;have HZ:Hid _:=hst.symm.trans hz.out;clear hst hz
     by_cases hc:x<128
     ·rw[if_pos hc]at HZ
      rw[if_neg (by omega)]at HZ;have HR:Hid (R=(n+x,1)):=by show _=_;rw[<-HZ.out];simp
      clear HZ;go_wp2;go_ret2;rw[HR.out];exact⟨by simp;omega,rfl⟩
     ·rw[if_neg hc]at HZ
      go_wp2
      go_round
      case rel=>exact⟨1,n+x % 128 * 1,by omega,by omega,by omega,by simp,by go_num,HZ⟩
      case measure=>simp[intOf]
    ·have hM:n<128:=hn
     have hor:bits .or .i64 (n:Int) ((x:Int) % 128 * 128)=((n+x % 128 * 128:Nat):Int):=CR 1 n x 128 (by omega) (by decide) hM;have hst:=DK 1 n x s h1 h2 hy;have HZ:Hid _:=hst.symm.trans hz.out;clear hst hz
     by_cases hc:x<128
     ·rw[if_pos hc]at HZ
      by_cases hc0:x=0
      ·rw[if_pos ⟨by omega,hc0⟩]at HZ
       have hb0:((x:Int) == 0)=true:=by simp[hc0]
       clear hc0;have HR:Hid (R=(0,0)):=HZ.out.symm;clear HZ;go_wp2;go_ret2;rw[HR.out];exact⟨by simp,rfl⟩
      ·rw[if_neg (by omega)]at HZ
       have hb0:((x:Int) == 0)=false:=by simp[hc0]
       have HR:Hid (R=(n+x * 128,2)):=by show _=_;rw[<-HZ.out]
       clear HZ;go_wp2;go_ret2;rw[HR.out];exact⟨by simp;omega,rfl⟩
     ·rw[if_neg hc]at HZ
      go_wp2
      go_round
      case rel=>exact⟨2,n+x % 128 * 128,by omega,by omega,by omega,by simp,by go_num,HZ⟩
      case measure=>simp[intOf]
    ·have hM:n<16384:=hn
     have hor:bits .or .i64 (n:Int) ((x:Int) % 128 * 16384)=((n+x % 128 * 16384:Nat):Int):=CR 2 n x 16384 (by omega) (by decide) hM;have hst:=DK 2 n x s h1 h2 hy;have HZ:Hid _:=hst.symm.trans hz.out;clear hst hz
     by_cases hc:x<128
     ·rw[if_pos hc]at HZ
      by_cases hc0:x=0
      ·rw[if_pos ⟨by omega,hc0⟩]at HZ
       have hb0:((x:Int) == 0)=true:=by simp[hc0]
       clear hc0;have HR:Hid (R=(0,0)):=HZ.out.symm;clear HZ;go_wp2;go_ret2;rw[HR.out];exact⟨by simp,rfl⟩
      ·rw[if_neg (by omega)]at HZ
       have hb0:((x:Int) == 0)=false:=by simp[hc0]
       have HR:Hid (R=(n+x * 16384,3)):=by show _=_;rw[<-HZ.out]
       clear HZ;go_wp2;go_ret2;rw[HR.out];exact⟨by simp;omega,rfl⟩
     ·rw[if_neg hc]at HZ
      go_wp2
      go_round
      case rel=>exact⟨3,n+x % 128 * 16384,by omega,by omega,by omega,by simp,by go_num,HZ⟩
      case measure=>simp[intOf]
    ·have hM:n<2097152:=hn
     have hor:bits .or .i64 (n:Int) ((x:Int) % 128 * 2097152)=((n+x % 128 * 2097152:Nat):Int):=CR 3 n x 2097152 (by omega) (by decide) hM;have hst:=DK 3 n x s h1 h2 hy;have HZ:Hid _:=hst.symm.trans hz.out;clear hst hz
     by_cases hc:x<128
     ·rw[if_pos hc]at HZ
      by_cases hc0:x=0
      ·rw[if_pos ⟨by omega,hc0⟩]at HZ
       have hb0:((x:Int) == 0)=true:=by simp[hc0]
       clear hc0;have HR:Hid (R=(0,0)):=HZ.out.symm;clear HZ;go_wp2;go_ret2;rw[HR.out];exact⟨by simp,rfl⟩
      ·rw[if_neg (by omega)]at HZ
       have hb0:((x:Int) == 0)=false:=by simp[hc0]
       have HR:Hid (R=(n+x * 2097152,4)):=by show _=_;rw[<-HZ.out]
       clear HZ;go_wp2;go_ret2;rw[HR.out];exact⟨by simp;omega,rfl⟩
     ·rw[if_neg hc]at HZ
      go_wp2
      go_round
      case rel=>exact⟨4,n+x % 128 * 2097152,by omega,by omega,by omega,by simp,by go_num,HZ⟩
      case measure=>simp[intOf]
    ·have hM:n<268435456:=hn
     have hor:bits .or .i64 (n:Int) ((x:Int) % 128 * 268435456)=((n+x % 128 * 268435456:Nat):Int):=CR 4 n x 268435456 (by omega) (by decide) hM;have hst:=DK 4 n x s h1 h2 hy;have HZ:Hid _:=hst.symm.trans hz.out;clear hst hz
     by_cases hc:x<128
     ·rw[if_pos hc]at HZ
      by_cases hc0:x=0
      ·rw[if_pos ⟨by omega,hc0⟩]at HZ
       have hb0:((x:Int) == 0)=true:=by simp[hc0]
       clear hc0;have HR:Hid (R=(0,0)):=HZ.out.symm;clear HZ;go_wp2;go_ret2;rw[HR.out];exact⟨by simp,rfl⟩
      ·rw[if_neg (by omega)]at HZ
       have hb0:((x:Int) == 0)=false:=by simp[hc0]
       have HR:Hid (R=(n+x * 268435456,5)):=by show _=_;rw[<-HZ.out]
       clear HZ;go_wp2;go_ret2;rw[HR.out];exact⟨by simp;omega,rfl⟩
     ·rw[if_neg hc]at HZ
      go_wp2
      go_round
      case rel=>exact⟨5,n+x % 128 * 268435456,by omega,by omega,by omega,by simp,by go_num,HZ⟩
      case measure=>simp[intOf]
   ·have e:R=(0,0):=by
     have h:=hz.out
     by_cases h5:k=5
     ·subst h5;exact h.symm
     ·rw[List.drop_eq_nil_of_le (by simp;omega)]at h
      rw[<-h];have:5-k=(4-k)+1:=by omega
      rw[this];rfl
    subst e;have hm:(s.size:Int)<=(k:Int):=by omega
    go_wp2;go_ret2;exact⟨by simp,rfl⟩
theorem Rx (f:Nat):∀(i acc:Nat) (l:List UInt8),acc<128 ^ i->(rnF f i acc l).1<128 ^ (i+f)/\(rnF f i acc l).2<=i+f/\(rnF f i acc l).2<=i+l.length:=by
 induction f with
 |zero=>intro i acc l h;simp[rnF];exact Nat.lt_of_le_of_lt (Nat.zero_le _) (Nat.pow_pos (by omega))
 |succ f ih=>
  intro i acc l h;have hp:0<128 ^ (i+(f+1)):=Nat.pow_pos (by omega)
  cases l with
  |nil=>simp[rnF,hp]
  |cons c l=>
   have hc:=UInt8.toNat_lt c;have e:128 ^ (i+1)=128 ^ i * 128:=Nat.pow_succ ..;have e2:i+(f+1)=i+1+f:=by omega
   unfold rnF;split
   ·rename_i h1
    split
    ·simp[hp]
    ·refine⟨?_,by simp only;omega,by simp⟩
     have h3:128 ^ (i+1)<=128 ^ (i+(f+1)):=Nat.pow_le_pow_right (by omega) (by omega);have h2:c.toNat * 128 ^ i<=127 * 128 ^ i:=Nat.mul_le_mul_right _ (by omega);simp only;omega
   ·have h2:c.toNat % 128 * 128 ^ i<=127 * 128 ^ i:=Nat.mul_le_mul_right _ (by omega)
    have:=ih (i+1) (acc+c.toNat % 128 * 128 ^ i) l (by omega);rw[e2];simp only[List.length_cons];omega
theorem Gy (l:List UInt8):(rnL l).1<34359738368/\(rnL l).2<=5/\(rnL l).2<=l.length:=by
 have:=Rx 5 0 0 l (by omega);simp only[rnL];omega
def rpL (l:List UInt8) (p:Pl):Option (Pl×Nat):=
 if(rnL l).2=0 then none
 else if(rnL l).1 % 2=1 then
  (if(rnL (l.drop (rnL l).2)).2=0\/(rnL l).1 / 2=0 then none
   else if CT p ⟨p.r+((rnL l).1 / 2:Nat),((rnL (l.drop (rnL l).2)).1:Nat)⟩then some (⟨p.r+((rnL l).1 / 2:Nat),((rnL (l.drop (rnL l).2)).1:Nat)⟩,(rnL l).2+(rnL (l.drop (rnL l).2)).2)else none)
 else if CT p ⟨p.r,p.a+((rnL l).1 / 2:Nat)⟩then some (⟨p.r,p.a+((rnL l).1 / 2:Nat)⟩,(rnL l).2)else none
def rpV:Option (Pl×Nat)->Value
 |none=> .tuple #[.agg #[.int .i64 0,.int .i64 0],.int .i64 0]
 |some (q,n)=> .tuple #[.agg #[.int .i64 q.r,.int .i64 q.a],.int .i64 n]
theorem GL (s:ByteArray) (n k:Nat) (h1:(rnL s.data.toList).1=n) (h2:(rnL s.data.toList).2=k) (w:World) (hs:s.size<=1000000):
  Calls Tryz.prog 178 #[.string s] w fun e w'=>e= .returned (.tuple #[.int .i64 n,.int .i64 k])/\w'=w:=by
 rw[<-h1,<-h2];exact Mm s w hs
theorem QX (s:ByteArray) (k:Nat):(s.extract k s.size).data.toList=s.data.toList.drop k:=by
 rw[ByteArray.data_extract,Array.toList_extract,List.extract_eq_take_drop,List.take_of_length_le];rw[List.length_drop];have:s.data.toList.length=s.size:=by simp
 omega
theorem Vx (w:World) (p q:Pl):Az (w.heap.size+1) ⟨0,0⟩ (((w.alloc (.cells #[.int .i64 p.r,.int .i64 p.a] 81)).alloc (.cells #[.int .i64 0,.int .i64 0] 81)).alloc (.cells #[.int .i64 q.r,.int .i64 q.a] 81))/\
  Az (w.heap.size+1+1) q (((w.alloc (.cells #[.int .i64 p.r,.int .i64 p.a] 81)).alloc (.cells #[.int .i64 0,.int .i64 0] 81)).alloc (.cells #[.int .i64 q.r,.int .i64 q.a] 81))/\
  Below w.heap.size w (((w.alloc (.cells #[.int .i64 p.r,.int .i64 p.a] 81)).alloc (.cells #[.int .i64 0,.int .i64 0] 81)).alloc (.cells #[.int .i64 q.r,.int .i64 q.a] 81)):=by
 obtain⟨w1,h1⟩:∃w1,w.alloc (.cells #[.int .i64 p.r,.int .i64 p.a] 81)=w1:=⟨_,rfl⟩;have s1:w1.heap.size=w.heap.size+1:=by rw[<-h1];simp
 have b1:Below w.heap.size w w1:=by rw[<-h1];exact(Below.refl _ _).alloc (Nat.le_refl _) _
 rw[h1];obtain⟨w2,h2⟩:∃w2,w1.alloc (.cells #[.int .i64 0,.int .i64 0] 81)=w2:=⟨_,rfl⟩;have s2:w2.heap.size=w.heap.size+1+1:=by rw[<-h2];simp[s1]
 have v2:Az (w.heap.size+1) ⟨0,0⟩ w2:=by have:=Az.new w1;rw[s1,h2]at this;exact this
 have b2:Below w.heap.size w w2:=by rw[<-h2];exact b1.alloc (by omega) _
 rw[h2];have b3:Below w2.heap.size w2 (w2.alloc (.cells #[.int .i64 q.r,.int .i64 q.a] 81)):=(Below.refl _ _).alloc (Nat.le_refl _) _;have v3:=Az.box w2 q;rw[s2]at v3;exact⟨v2.below b3,v3,b2.trans (b3.mono b2.size)⟩
set_option maxHeartbeats 4000000
theorem GK (s:ByteArray) (p:Pl) (hp:Jg p) (w:World) (hs:s.size<=1000000):
  Calls Tryz.prog 135 #[.string s,.agg #[.int .i64 p.r,.int .i64 p.a]] w fun e w'=>e= .returned (rpV (rpL s.data.toList p))/\Below w.heap.size w w':=by
 obtain⟨p1,p2,p3,p4⟩:=hp;obtain⟨b1,b2,b3⟩:=Gy s.data.toList;obtain⟨n,hn⟩:∃n,(rnL s.data.toList).1=n:=⟨_,rfl⟩;obtain⟨k,hk⟩:∃k,(rnL s.data.toList).2=k:=⟨_,rfl⟩;rw[hn]at b1;rw[hk]at b2 b3;rw[show s.data.toList.length=s.size by simp]at b3;have HN:Hid ((rnL s.data.toList).1=n/\(rnL s.data.toList).2=k):=⟨hn,hk⟩;obtain⟨V,hV⟩:∃V,rpV (rpL s.data.toList p)=V:=⟨_,rfl⟩;have HV:Hid (rpV (rpL s.data.toList p)=V):=hV;rw[hV];have e2:((n / 2:Nat):Int)=(n:Int) / 2:=by omega
 simp only[rpL,hn,hk,e2]at hV;have HU:Hid _:=hV;clear hV hn hk HV e2;go_enter Tryz.func135,Tryz.ntmps135;go_wp2_with fail;refine(GL s n k HN.out.1 HN.out.2 _ hs).mono ?_;rintro _ wq ⟨rfl,hwq⟩;subst hwq
 by_cases hk0:k=0
 ·subst hk0
  have HR:Hid (V= .tuple #[.agg #[.int .i64 0,.int .i64 0],.int .i64 0]):=by show _=_;rw[<-HU.out];rfl
  clear HU;go_wp2;rw[HR.out];exact bodyPost_ret (v:= .tuple #[.agg #[.int .i64 0,.int .i64 0],.int .i64 0]) (by simp[results,Tryz.results135,go_sem]) rfl ⟨rfl,((Below.refl _ _).alloc (Nat.le_refl _) _).alloc (by simp) _⟩
 ·have j0:((k:Int) == 0)=false:=by simp[hk0]
  by_cases hodd:n % 2=1
  ·have j1:((n:Int) % 2 == 1)=true:=by simp;omega
   obtain⟨c1,c2,c3⟩:=Gy (s.data.toList.drop k);obtain⟨x,hx⟩:∃x,(rnL (s.data.toList.drop k)).1=x:=⟨_,rfl⟩;obtain⟨m,hm⟩:∃m,(rnL (s.data.toList.drop k)).2=m:=⟨_,rfl⟩;have HM:Hid ((rnL (s.extract k s.size).data.toList).1=x/\(rnL (s.extract k s.size).data.toList).2=m):=by rw[QX];exact⟨hx,hm⟩
   have HU:Hid _:=HU.out;simp only[hk0,hodd,hx,hm,if_true,if_false]at HU;rw[hx]at c1;rw[hm]at c2 c3;clear hx hm;go_wp2_with fail;refine(GL (s.extract k s.size) x m HM.out.1 HM.out.2 _ (by simp;omega)).mono ?_;rintro _ wq ⟨rfl,hwq⟩;subst hwq
   by_cases hm0:m=0
   ·have j2:((m:Int) == 0)=true:=by simp[hm0]
    have HR:Hid (V= .tuple #[.agg #[.int .i64 0,.int .i64 0],.int .i64 0]):=by show _=_;rw[<-HU.out,if_pos (.inl hm0)];rfl
    clear HU hm0;go_wp2;rw[HR.out];exact bodyPost_ret (v:= .tuple #[.agg #[.int .i64 0,.int .i64 0],.int .i64 0]) (by simp[results,Tryz.results135,go_sem]) rfl ⟨rfl,(((Below.refl _ _).alloc (Nat.le_refl _) _).alloc (by simp) _).alloc (by simp;omega) _⟩
   ·have j2:((m:Int) == 0)=false:=by simp[hm0]
    by_cases hh:n / 2=0
    ·have j3:((n:Int) / 2 == 0)=true:=by simp;omega
     have HR:Hid (V= .tuple #[.agg #[.int .i64 0,.int .i64 0],.int .i64 0]):=by show _=_;rw[<-HU.out,if_pos (.inr hh)];rfl
     clear HU hh;go_wp2;rw[HR.out];exact bodyPost_ret (v:= .tuple #[.agg #[.int .i64 0,.int .i64 0],.int .i64 0]) (by simp[results,Tryz.results135,go_sem]) rfl ⟨rfl,(((Below.refl _ _).alloc (Nat.le_refl _) _).alloc (by simp) _).alloc (by simp;omega) _⟩
    ·have j3:((n:Int) / 2 == 0)=false:=by simp;omega
     obtain⟨bb,hbb⟩:∃bb,CT p ⟨p.r+(n:Int) / 2,(x:Int)⟩=bb:=⟨_,rfl⟩
     have HU2:Hid (V=rpV (if bb then some (⟨p.r+(n:Int) / 2,(x:Int)⟩,k+m)else none)):=by
      show _=_;rw[<-HU.out,if_neg (by omega),hbb]
     clear HU;go_wp2_with fail;refine(Hg p ⟨p.r+(n:Int) / 2,(x:Int)⟩ bb hbb _).mono ?_;rintro _ w4 ⟨rfl,hb4⟩;obtain⟨v1,v2,hbw⟩:=Vx w p ⟨p.r+(n:Int) / 2,(x:Int)⟩;have HV1:Hid (Az (w.heap.size+1) ⟨0,0⟩ w4):=v1.below hb4;have HV2:Hid (Az (w.heap.size+1+1) ⟨p.r+(n:Int) / 2,(x:Int)⟩ w4):=v2.below hb4;have HB4:Hid (Below w.heap.size w w4):=hbw.trans (hb4.mono hbw.size);clear v1 v2 hbw hb4;obtain⟨y1,y2,y3,y4,y5⟩:=HV1.out;obtain⟨y6,y7,_,_,_⟩:=HV2.out
     cases bb
     ·go_wp2
      rw[HU2.out];obtain⟨z1,z2,_,_,_⟩:=HV1.out.set ⟨0,0⟩;exact bodyPost_ret (v:= .tuple #[.agg #[.int .i64 0,.int .i64 0],.int .i64 0]) (by simp[results,Tryz.results135,go_sem,z1,z2]) rfl ⟨rfl,(HB4.out.setCell (p:=⟨_,0,none⟩) (by show _<=w.heap.size+1;omega) _).setCell (p:=⟨_,1,none⟩) (by show _<=w.heap.size+1;omega) _⟩
     ·go_wp2
      rw[HU2.out];obtain⟨z1,z2,_,_,_⟩:=HV1.out.set ⟨p.r+(n:Int) / 2,(x:Int)⟩;exact bodyPost_ret (v:= .tuple #[.agg #[.int .i64 (⟨p.r+(n:Int) / 2,(x:Int)⟩:Pl).r,.int .i64 (⟨p.r+(n:Int) / 2,(x:Int)⟩:Pl).a],.int .i64 ((k:Int)+(m:Int))]) (by simp[results,Tryz.results135,go_sem,z1,z2]) rfl ⟨by simp[rpV],(HB4.out.setCell (p:=⟨_,0,none⟩) (by show _<=w.heap.size+1;omega) _).setCell (p:=⟨_,1,none⟩) (by show _<=w.heap.size+1;omega) _⟩
  ·have j1:((n:Int) % 2 == 1)=false:=by simp;omega
   have HU:Hid _:=HU.out;simp only[hk0,hodd,if_false]at HU;obtain⟨bb,hbb⟩:∃bb,CT p ⟨p.r,p.a+(n:Int) / 2⟩=bb:=⟨_,rfl⟩
   have HU2:Hid (V=rpV (if bb then some (⟨p.r,p.a+(n:Int) / 2⟩,k)else none)):=by
    show _=_;rw[<-HU.out,hbb]
   clear HU;go_wp2_with fail;refine(Hg p ⟨p.r,p.a+(n:Int) / 2⟩ bb hbb _).mono ?_;rintro _ w4 ⟨rfl,hb4⟩;obtain⟨v1,v2,hbw⟩:=Vx w p ⟨p.r,p.a+(n:Int) / 2⟩;have HV1:Hid (Az (w.heap.size+1) ⟨0,0⟩ w4):=v1.below hb4;have HV2:Hid (Az (w.heap.size+1+1) ⟨p.r,p.a+(n:Int) / 2⟩ w4):=v2.below hb4;have HB4:Hid (Below w.heap.size w w4):=hbw.trans (hb4.mono hbw.size);clear v1 v2 hbw hb4;obtain⟨y1,y2,y3,y4,y5⟩:=HV1.out;obtain⟨y6,y7,_,_,_⟩:=HV2.out
   cases bb
   ·go_wp2
    rw[HU2.out];obtain⟨z1,z2,_,_,_⟩:=HV1.out.set ⟨0,0⟩;exact bodyPost_ret (v:= .tuple #[.agg #[.int .i64 0,.int .i64 0],.int .i64 0]) (by simp[results,Tryz.results135,go_sem,z1,z2]) rfl ⟨rfl,(HB4.out.setCell (p:=⟨_,0,none⟩) (by show _<=w.heap.size+1;omega) _).setCell (p:=⟨_,1,none⟩) (by show _<=w.heap.size+1;omega) _⟩
   ·go_wp2
    rw[HU2.out];obtain⟨z1,z2,_,_,_⟩:=HV1.out.set ⟨p.r,p.a+(n:Int) / 2⟩;exact bodyPost_ret (v:= .tuple #[.agg #[.int .i64 (⟨p.r,p.a+(n:Int) / 2⟩:Pl).r,.int .i64 (⟨p.r,p.a+(n:Int) / 2⟩:Pl).a],.int .i64 ((k:Int))]) (by simp[results,Tryz.results135,go_sem,z1,z2]) rfl ⟨by simp[rpV],(HB4.out.setCell (p:=⟨_,0,none⟩) (by show _<=w.heap.size+1;omega) _).setCell (p:=⟨_,1,none⟩) (by show _<=w.heap.size+1;omega) _⟩
def rdF:Nat->Pl->List UInt8->Option (List Pl)
 |_,_,[]=>some []
 |0,_,_::_=>none
 |f+1,p,c::l=>match rpL (c::l) p with
  |none=>none
  |some (q,n)=>(rdF f q ((c::l).drop n)).map (q::·)
def Ll (l:List UInt8):Option (List Pl):=rdF l.length ⟨0,0⟩ l
theorem Qt {l:List UInt8} {p q:Pl} {n:Nat} (h:rpL l p=some (q,n)):1<=n/\n<=l.length/\CT p q=true:=by
 have hb:=Gy l;have hb2:=Gy (l.drop (rnL l).2);rw[List.length_drop]at hb2;unfold rpL at h;split at h
 ·cases h
 ·split at h
  ·split at h
   ·cases h
   ·split at h
    ·rename_i hf
     cases h
     exact⟨by omega,by omega,hf⟩
    ·cases h
  ·split at h
   ·rename_i hf
    cases h
    exact⟨by omega,by omega,hf⟩
   ·cases h
theorem TP (f:Nat) (p:Pl) (l:List UInt8) (hl:0<l.length) (hf:l.length<=f) (R:Option (List Pl)) (ps:List Pl) (h:(rdF f p l).map (ps++·)=R):
  (rpL l p=none->R=none)/\∀q n,rpL l p=some (q,n)->(rdF (f-1) q (l.drop n)).map ((ps++[q])++·)=R:=by
 cases l with
 |nil=>simp at hl
 |cons c l=>
  cases f with
  |zero=>simp at hf
  |succ f=>
   rw[rdF]at h;refine⟨fun e=> ?_,fun q n e=> ?_⟩
   ·rw[e]at h;exact h.symm
   ·rw[e]at h
    rw[<-h];simp only[Nat.add_sub_cancel]
    cases rdF f q ((c::l).drop n)<;>simp
theorem JJ (s:ByteArray) (p:Pl) (hp:Jg p) (h:rpL s.data.toList p=none) (w:World) (hs:s.size<=1000000):
  Calls Tryz.prog 135 #[.string s,.agg #[.int .i64 p.r,.int .i64 p.a]] w fun e w'=>e= .returned (.tuple #[.agg #[.int .i64 0,.int .i64 0],.int .i64 0])/\Below w.heap.size w w':=by
 have:=GK s p hp w hs;rw[h]at this;exact this
theorem JI (s:ByteArray) (p q:Pl) (n:Nat) (hp:Jg p) (h:rpL s.data.toList p=some (q,n)) (w:World) (hs:s.size<=1000000):
  Calls Tryz.prog 135 #[.string s,.agg #[.int .i64 p.r,.int .i64 p.a]] w fun e w'=>e= .returned (.tuple #[.agg #[.int .i64 q.r,.int .i64 q.a],.int .i64 n])/\Below w.heap.size w w':=by
 have:=GK s p hp w hs;rw[h]at this;exact this
theorem I8 (p:Pl):∀u∈plc [p],u.oneCell'=true:=Qx [p]
theorem G6 (w:World) (q:Pl) (t:TypeId):∀j u,(plc [q])[j]? =some u->(w.alloc (.cells #[.int .i64 q.r,.int .i64 q.a] t)).cell? ((⟨w.heap.size,0,none⟩:Addr).add j)=some u:=by
 intro j u hj;rw[Go.WideShapes.add_plain]
 have hj2:j=0\/j=1:=by
  have:=(List.getElem?_eq_some_iff.1 hj).1;simp[plc]at this;omega
 rcases hj2 with rfl|rfl<;>simp[plc]at hj ⊢<;>exact hj
theorem G4 {w:World} {B B':Nat} {t:TypeId} {z:Nat} {v:Value} {n:Nat} {xs:List Value} (h:w.ownsRow B t z v n xs) (hb:B'<=B):w.ownsRow B' t z v n xs:=by
 refine⟨h.1,?_⟩;rcases h.2 with h2|⟨g,cap,cur,h1,h2,h3⟩
 ·exact .inl h2
 ·exact .inr ⟨g,cap,cur,h1,Nat.le_trans hb h2,h3⟩
def Qn:Value->Nat
 | .string t=>t.size
 |_=>0
theorem R8 (s:ByteArray) (w:World) (hs:s.size<=900000):
  Calls Tryz.prog 92 #[.string s] w fun e w'=>((∃ps v,Ll s.data.toList=some ps/\e= .returned (.tuple #[v,.nilIface])/\ps.length<=900000/\w'.ownsRow w.heap.size 81 2 v ps.length (plc ps))\/
   (Ll s.data.toList=none/\e= .returned (.tuple #[.slice none 0 0,.iface 24 (.int .i64 3)])))/\Below w.heap.size w w':=by
 obtain⟨i0,hi,hz0,hz1,hz2⟩:=A5 He;obtain⟨R,hR⟩:∃R,Ll s.data.toList=R:=⟨_,rfl⟩
 have HR:Hid ((rdF s.size ⟨0,0⟩ s.data.toList).map ([]++·)=R):=by
  show _=_;rw[<-hR,Ll,show s.data.toList.length=s.size by simp]
  cases rdF s.size ⟨0,0⟩ s.data.toList<;>simp
 rw[hR];clear hR;go_enter Tryz.func92,Tryz.ntmps92;go_wp2;go_loopw [0,4] (fun x v wr=>∃(t:ByteArray) (p:Pl) (ps:List Pl) (f:Nat),t.size<=f/\ps.length+t.size<=s.size/\x= .string t/\Hid (Az w.heap.size p wr/\Below w.heap.size w wr/\(rdF f p t.data.toList).map (ps++·)=R)/\Hid (wr.ownsRow (w.heap.size+1) 81 2 v ps.length (plc ps))/\Hid (Jg p)) (fun x _ _=>Qn x)
 case atStart=>exact⟨s,⟨0,0⟩,[],s.size,Nat.le_refl _,by simp,rfl,⟨Az.new w,(Below.refl _ _).alloc (Nat.le_refl _) _,HR.out⟩,World.ownsRow_nil _ _ _ _,⟨by decide,by decide,by decide,by decide⟩⟩
 case round=>
  clear HR;obtain⟨t,p,ps,f,hf,hps,rfl,hz,hown,hah⟩:=hrel
  by_cases h0:0<t.size
  ·have hst:=TP f p t.data.toList (by simpa using h0) (by simpa using hf) R ps hz.out.2.2
   have HV:Hid (Az w.heap.size p wr):=hz.out.1;have HB:Hid (Below w.heap.size w wr):=hz.out.2.1;obtain⟨c1,c2,f1,f2,hlt1⟩:=HV.out;clear hz
   cases hrp:rpL t.data.toList p with
   |none=>
    have e:=hst.1 hrp;subst e;clear hst;go_wp2_with fail;refine(JJ t p hah.out hrp _ (by omega)).mono ?_;rintro _ w2 ⟨rfl,hb2⟩;go_wp2;go_ret2;exact⟨rfl,(HB.out.trans (hb2.mono HB.out.size)).alloc (by have:=HB.out.size;have:=hb2.size;omega) _⟩
   |some y=>
    obtain⟨q,n⟩:=y;have HST:Hid _:=hst.2 q n hrp;obtain⟨n1,n2,n3⟩:=Qt hrp;rw[show t.data.toList.length=t.size by simp]at n2;clear hst;go_wp2_with fail;refine(JI t p q n hah.out hrp _ (by omega)).mono ?_;rintro _ w2 ⟨rfl,hb2⟩;have HV2:Hid (Az w.heap.size p w2):=HV.out.below hb2;have HB2:Hid (Below w.heap.size w w2):=HB.out.trans (hb2.mono HB.out.size);have HO2:Hid (w2.ownsRow (w.heap.size+1) 81 2 u4 ps.length (plc ps)):=Bi hown.out hb2;have hs2:w.heap.size+1<=w2.heap.size:=by have:=hb2.size;omega
    clear hb2 HV HB hown c1 c2 f1 f2 hlt1 hrp;obtain⟨⟨k1,k2⟩,⟨k3,k4⟩,_⟩:=EF n3;have j0:((n:Int) == 0)=false:=by simp;omega
    have HBX:Hid (Az w2.heap.size q (w2.alloc (.cells #[.int .i64 q.r,.int .i64 q.a] 81))):=Az.box w2 q;have HA:Hid (Below w2.heap.size w2 (w2.alloc (.cells #[.int .i64 q.r,.int .i64 q.a] 81))):=(Below.refl _ _).alloc (Nat.le_refl _) _;have HO3:Hid ((w2.alloc (.cells #[.int .i64 q.r,.int .i64 q.a] 81)).ownsRow (w.heap.size+1) 81 2 u4 ps.length (plc ps)):=Bi HO2.out HA.out;have hsz3:(w2.alloc (.cells #[.int .i64 q.r,.int .i64 q.a] 81)).heap.size=w2.heap.size+1:=by simp
    have HN:Hid (u4.ownBlock≠some w2.heap.size):=F9 HO2.out _ (.inr (Nat.le_refl _))
    go_wp2_with (at_builtin;refine wpList_append_lies _ rfl _ _ 91 rfl (w.heap.size+1) 81 i0 (.agg #[.int .i64 0,.int .i64 0]) 2 16 Tryz.underlying91 hi hz0 hz1 hz2 rfl (by decide) _ _ _ rfl (HO3.out.alloc _) ⟨w2.heap.size+1,0,none⟩ 1 1 (plc [q]) rfl rfl (by have:=G6 (w2.alloc (.cells #[.int .i64 q.r,.int .i64 q.a] 81)) q 81;rw[hsz3]at this;exact this) (I8 q) (by decide) (by simp[maxLen];omega) (by omega) (by simp;omega) _ rfl ?_)
    intro g cap w3 hown' hgrow hg _
    have HG:Hid (Gr (w2.alloc (.cells #[.int .i64 q.r,.int .i64 q.a] 81)) w3 u4 (.slice (some ⟨g,0,none⟩) (ps.length+1) cap)):=Gr.alloc _ ⟨hgrow,fun k hk=>by
     have e:g=k:=by simpa [Fl]using hk
     subst e;rcases hg with h|h
     ·exact .inl h
     ·exact .inr (by rw[h];simp)⟩
    have HV3:Hid (Az w.heap.size p w3):=Az.gr (HV2.out.below HA.out) HG.out (F9 HO3.out _ (.inl (by omega)));have HX3:Hid (Az w2.heap.size q w3):=Az.gr HBX.out HG.out HN.out;have HB3:Hid (Below w.heap.size w w3):=(HB2.out.trans (HA.out.mono HB2.out.size)).trans (HG.out.below (fun k hk=>by have:=(HO3.out.lt k hk).1;omega) (by omega));have HO4:Hid (w3.ownsRow (w.heap.size+1) 81 2 (.slice (some ⟨g,0,none⟩) (ps.length+1) cap) (ps++[q]).length (plc (ps++[q]))):=Bc hown' (by simp) (by rw[Cc]);clear hown' hgrow hg HG HBX HA HO3 HN HO2 HV2 HB2 hsz3;obtain⟨c1,c2,f1,f2,hlt1⟩:=HV3.out;obtain⟨c3,c4,_,_,_⟩:=HX3.out;go_wp2;go_roundw
    case rel=>
     refine⟨t.extract n t.size,q,ps++[q],f-1,by simp;omega,by simp;omega,by simp,⟨HV3.out.set q,(HB3.out.setCell (p:=⟨_,0,none⟩) (Nat.le_refl _) _).setCell (p:=⟨_,1,none⟩) (Nat.le_refl _) _,?_⟩,G3 (G3 HO4.out _ _ (by omega) _) _ _ (by omega) _,⟨by omega,by omega,by omega,by omega⟩⟩;rw[QX];exact HST.out
    case measure=>simp[Qn];omega
  ·obtain rfl:t=⟨#[]⟩:=by
    cases t with
    |mk d=>
     have:d.size=0:=Nat.eq_zero_of_not_pos h0;simp[Array.size_eq_zero_iff.1 this]
   have e:R=some ps:=by
    have:=hz.out.2.2
    cases f<;>simpa [rdF]using this.symm
   subst e;go_wp2;go_ret2;exact⟨⟨_,rfl,by omega,G4 hown.out (by omega)⟩,hz.out.2.1⟩
theorem ofNat_toNat {n:Nat} (h:n<256):(UInt8.ofNat n).toNat=n:=by simp;omega
theorem X9 (n:Nat):∀(f i acc:Nat) (rest:List UInt8),(Bv n).length<=f->(n≠0\/i=0)->rnF f i acc (Bv n++rest)=(acc+n * 128 ^ i,i+(Bv n).length):=by
 induction n using Nat.strongRecOn with
 |ind n ih=>
  intro f i acc rest hf h0
  by_cases hn:n<128
  ·rw[E7 hn]at hf ⊢
   cases f with
   |zero=>simp at hf
   |succ f=>
    simp only[List.singleton_append,rnF,ofNat_toNat (show n<256 by omega),if_pos hn,List.length_singleton];rw[if_neg (by omega)]
  ·rw[JU hn]at hf ⊢
   cases f with
   |zero=>simp at hf
   |succ f=>
    simp only[List.length_cons]at hf;simp only[List.cons_append,rnF,ofNat_toNat (show n % 128+128<256 by omega),List.length_cons];rw[if_neg (by omega),show(n % 128+128) % 128=n % 128 by omega];rw[ih (n / 128) (by omega) f (i+1) _ rest (by omega) (.inl (by omega))];have e:n=n % 128+128 * (n / 128):=by omega
    have e2:n * 128 ^ i=n % 128 * 128 ^ i+n / 128 * 128 ^ (i+1):=by
     conv=>lhs;rw[e]
     rw[Nat.add_mul,Nat.pow_succ,Nat.mul_comm 128 (n / 128),Nat.mul_assoc,Nat.mul_comm 128 (128 ^ i)]
    rw[e2,Nat.add_assoc];congr 1;omega
theorem Mi (n:Nat) (hn:n<34359738368) (rest:List UInt8):rnL (Bv n++rest)=(n,(Bv n).length):=by
 have:=X9 n 5 0 0 rest (FZ 4 n (by omega)) (.inr rfl);simpa [rnL]using this
theorem X8 {p q:Pl} (hp:Jg p) (h:CT p q=true) (rest:List UInt8):rpL (Gi p q++rest) p=some (q,(Gi p q).length):=by
 obtain⟨⟨a1,a2⟩,⟨a3,a4⟩,h5⟩:=EF h;obtain⟨b1,b2,b3,b4⟩:=hp;unfold Gi
 by_cases e:q.r=p.r
 ·have hlt:p.a<q.a:=by rcases h5 with⟨_,h⟩|⟨h,_⟩;exact h;exact absurd e h
  obtain⟨N,hN⟩:∃N,(2 * (q.a-p.a)).toNat=N:=⟨_,rfl⟩;rw[if_pos e,hN];have hr:=Mi N (by omega) rest;have hl:=FY N
  have hq:(⟨p.r,p.a+((N / 2:Nat):Int)⟩:Pl)=q:=by
   obtain⟨qr,qa⟩:=q;simp only[Pl.mk.injEq]at *;omega
  unfold rpL;rw[hr];simp only;rw[if_neg (by omega),if_neg (by omega),hq,if_pos h]
 ·have hlt:p.r<q.r:=by rcases h5 with⟨h,_⟩|⟨_,h⟩;exact absurd h e;exact h
  obtain⟨N,hN⟩:∃N,(2 * (q.r-p.r)+1).toNat=N:=⟨_,rfl⟩;obtain⟨M,hM⟩:∃M,q.a.toNat=M:=⟨_,rfl⟩;rw[if_neg e,hN,hM,List.append_assoc];have hr:=Mi N (by omega) (Bv M++rest);have hr2:=Mi M (by omega) rest;have hl:=FY N;have hl2:=FY M
  have hq:(⟨p.r+((N / 2:Nat):Int),(M:Int)⟩:Pl)=q:=by
   obtain⟨qr,qa⟩:=q;simp only[Pl.mk.injEq]at *;omega
  unfold rpL;rw[hr];simp only[List.drop_left];rw[hr2];simp only;rw[if_neg (by omega),if_pos (by omega),if_neg (by omega),hq,if_pos h,List.length_append]
theorem XB (l:List Pl):∀(p:Pl) (f:Nat),Jg p->Al p l=true->(Bd p l).length<=f->rdF f p (Bd p l)=some l:=by
 induction l with
 |nil=>intro p f _ _ _;cases f<;>rfl
 |cons q l ih=>
  intro p f hp h hf;simp only[Al,Bool.and_eq_true]at h;obtain⟨⟨a1,a2⟩,⟨a3,a4⟩,_⟩:=EF h.1;have hr:=X8 hp h.1 (Bd q l);have hpos:=(Qt hr).1;simp only[Bd]at hf ⊢;rw[List.length_append]at hf
  cases f with
  |zero=>omega
  |succ f=>
   cases hc:Gi p q++Bd q l with
   |nil=>
    have:=congrArg List.length hc;rw[List.length_append]at this;simp at this;rw[this.1]at hpos;simp at hpos
   |cons c t=>
    rw[rdF,<-hc,hr];simp only[List.drop_left];rw[ih q f ⟨by omega,by omega,by omega,by omega⟩ h.2 (by omega)];rfl
theorem TO (l:List Pl) (h:DB l=true):Ll (EZ l)=some l:=XB l ⟨0,0⟩ _ ⟨by decide,by decide,by decide,by decide⟩ h (Nat.le_refl _)
end
end Go.Proofs.YtgfldnaahojnlaaGreatDoor
