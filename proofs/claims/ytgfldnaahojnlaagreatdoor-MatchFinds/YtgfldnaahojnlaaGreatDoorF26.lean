/- MatchFinds: part 26. -/
import Derived.Test.YtgfldnaahojnlaaGreatDoorF17
set_option maxRecDepth 100000
set_option maxHeartbeats 4000000
namespace Go.Proofs.YtgfldnaahojnlaaGreatDoor
section
open Go.RowKit
theorem Wu (n:Nat) (hn:n<=1000000) (w:World):∃w',(Instr.makeSlice 166 (.int .i64 (n:Int)) (.int .i64 (n:Int))).run Tryz.prog w= .ok (.slice (some ⟨w.heap.size,0,none⟩) n n) w'/\Below w.heap.size w w'/\
  (∀j,j<n->w'.cell? ⟨w.heap.size,j,none⟩=some (.int .u8 0))/\(∀j,j<n->w'.frozen? ⟨w.heap.size,j,none⟩=false):=by
 obtain⟨i0,hi,hz0,hz1,hz2⟩:=Ko UP;have h:=run_make (P:=Tryz.prog) w 166 5 i0 (.int .u8 0) Tryz.underlying166 hi hz0 .i64 .i64 n n (by omega) (Int.le_refl _) (by rw[hz2];omega) (by omega);rw[hz1]at h;simp only[Int.toNat_natCast,Nat.mul_one]at h;refine⟨_,h,(Below.refl _ w).alloc (Nat.le_refl _) _,fun j hj=> ?_,fun j hj=> ?_⟩
 ·have hn':=heap_alloc_new w (.cells (madeCells (Value.int .u8 0).cells n) 5)
  simp only[World.cell?,hn'];simp[madeCells,hj,Value.cells,Nat.mod_one]
 ·have hn':=heap_alloc_new w (.cells (madeCells (Value.int .u8 0).cells n) 5)
  simp only[World.frozen?,hn'];simp
set_option maxHeartbeats 1000000
theorem F7 (s:ByteArray) (w:World) (hs:s.size<=1000000):
  Calls Tryz.prog 63 #[.string s] w fun e w'=>e= .returned (.string (A6 s))/\Below w.heap.size w w':=by
 obtain⟨w1,hcv,hb1,hc1,hf1⟩:=Wu s.size hs w;have h0:Jl w.heap.size s.size 0 (fun j=>EK (bt s j)) (fun _=>0) w1:=⟨fun j hj=>by rw[hc1 j hj];simp,hf1⟩;clear hc1 hf1;go_enter Tryz.func63,Tryz.ntmps63;go_wp2;go_loopw [11] (fun i wr=>∃k:Nat,k<=s.size/\i= .int .i64 k/\Hid (Jl w.heap.size s.size k (fun j=>EK (bt s j)) (fun _=>0) wr/\Below w.heap.size w wr)) (fun i _=>s.size-(intOf i).toNat)
 case atStart=>exact⟨0,Nat.zero_le _,rfl,h0,hb1⟩
 case round=>
  clear h0 hb1 hcv;obtain⟨k,hk,rfl,hz⟩:=hrel
  by_cases hlt:k<s.size
  ·have hc:=hz.out.1.cell k hlt
   have hf:=hz.out.1.free k hlt;simp only[Nat.lt_irrefl,if_false]at hc;have hbt:=Xs s k;have hx:=Vv s k hlt;obtain⟨x,hy⟩:∃x,s[k].toNat=x:=⟨_,rfl⟩;rw[hx,hy]at hbt;rw[hy]at hx;have HX:Hid (bt s k=x):=hx;clear hx;obtain⟨a1,e1⟩:∃b,decide ((65:Int)<=(x:Int))=b:=⟨_,rfl⟩;obtain⟨a2,e2⟩:∃b,decide ((x:Int)<=90)=b:=⟨_,rfl⟩;have hi:(k:Int)<(s.size:Int):=by omega
   cases a1
   ·go_wp2
    go_roundw
    case rel=>
     refine⟨k+1,by omega,by go_num,hz.out.1.set hlt _ ?_,hz.out.2.setCell (p:=⟨_,k,none⟩) (Nat.le_refl _) _⟩;show _=((EK (bt s k):Nat):Int);simp only[decide_eq_false_iff_not]at e1;rw[HX.out,EK,if_neg (by omega)]
    case measure=>simp[intOf];omega
   ·cases a2
    ·go_wp2
     go_roundw
     case rel=>
      refine⟨k+1,by omega,by go_num,hz.out.1.set hlt _ ?_,hz.out.2.setCell (p:=⟨_,k,none⟩) (Nat.le_refl _) _⟩;show _=((EK (bt s k):Nat):Int);simp only[decide_eq_false_iff_not]at e2;rw[HX.out,EK,if_neg (by omega)]
     case measure=>simp[intOf];omega
    ·simp only[decide_eq_true_eq]at e1 e2
     go_wp2;go_roundw
     case rel=>
      refine⟨k+1,by omega,by go_num,hz.out.1.set hlt _ ?_,hz.out.2.setCell (p:=⟨_,k,none⟩) (Nat.le_refl _) _⟩;show _=((EK (bt s k):Nat):Int);rw[HX.out,EK,if_pos (by omega)];omega
     case measure=>simp[intOf];omega
  ·obtain rfl:k=s.size:=by omega
   have ht:=hz.out.1.text (cap:=s.size) (Aw s.data.toList) (D8 s) (J9 s);go_wp2;go_ret;exact⟨rfl,hz.out.2⟩
theorem Zb (W:World):(Instr.index 196 (.agg #[.string ⟨#[115,115,101,115]⟩,.string ⟨#[115,115]⟩,.string ⟨#[105,101,115]⟩,.string ⟨#[121]⟩,.string ⟨#[115,115]⟩,.string ⟨#[115,115]⟩,.string ⟨#[105,110,103]⟩,.string ⟨#[]⟩,.string ⟨#[101,100]⟩,.string ⟨#[]⟩,.string ⟨#[101,115]⟩,.string ⟨#[101]⟩,.string ⟨#[115]⟩,.string ⟨#[]⟩]) (.int .i64 0)).run Tryz.prog W= .ok (.agg #[.string ⟨#[115,115,101,115]⟩,.string ⟨#[115,115]⟩]) W:=by kernel_rfl
theorem Za (W:World):(Instr.index 196 (.agg #[.string ⟨#[115,115,101,115]⟩,.string ⟨#[115,115]⟩,.string ⟨#[105,101,115]⟩,.string ⟨#[121]⟩,.string ⟨#[115,115]⟩,.string ⟨#[115,115]⟩,.string ⟨#[105,110,103]⟩,.string ⟨#[]⟩,.string ⟨#[101,100]⟩,.string ⟨#[]⟩,.string ⟨#[101,115]⟩,.string ⟨#[101]⟩,.string ⟨#[115]⟩,.string ⟨#[]⟩]) (.int .i64 1)).run Tryz.prog W= .ok (.agg #[.string ⟨#[105,101,115]⟩,.string ⟨#[121]⟩]) W:=by kernel_rfl
theorem YZ (W:World):(Instr.index 196 (.agg #[.string ⟨#[115,115,101,115]⟩,.string ⟨#[115,115]⟩,.string ⟨#[105,101,115]⟩,.string ⟨#[121]⟩,.string ⟨#[115,115]⟩,.string ⟨#[115,115]⟩,.string ⟨#[105,110,103]⟩,.string ⟨#[]⟩,.string ⟨#[101,100]⟩,.string ⟨#[]⟩,.string ⟨#[101,115]⟩,.string ⟨#[101]⟩,.string ⟨#[115]⟩,.string ⟨#[]⟩]) (.int .i64 2)).run Tryz.prog W= .ok (.agg #[.string ⟨#[115,115]⟩,.string ⟨#[115,115]⟩]) W:=by kernel_rfl
theorem YY (W:World):(Instr.index 196 (.agg #[.string ⟨#[115,115,101,115]⟩,.string ⟨#[115,115]⟩,.string ⟨#[105,101,115]⟩,.string ⟨#[121]⟩,.string ⟨#[115,115]⟩,.string ⟨#[115,115]⟩,.string ⟨#[105,110,103]⟩,.string ⟨#[]⟩,.string ⟨#[101,100]⟩,.string ⟨#[]⟩,.string ⟨#[101,115]⟩,.string ⟨#[101]⟩,.string ⟨#[115]⟩,.string ⟨#[]⟩]) (.int .i64 3)).run Tryz.prog W= .ok (.agg #[.string ⟨#[105,110,103]⟩,.string ⟨#[]⟩]) W:=by kernel_rfl
theorem YX (W:World):(Instr.index 196 (.agg #[.string ⟨#[115,115,101,115]⟩,.string ⟨#[115,115]⟩,.string ⟨#[105,101,115]⟩,.string ⟨#[121]⟩,.string ⟨#[115,115]⟩,.string ⟨#[115,115]⟩,.string ⟨#[105,110,103]⟩,.string ⟨#[]⟩,.string ⟨#[101,100]⟩,.string ⟨#[]⟩,.string ⟨#[101,115]⟩,.string ⟨#[101]⟩,.string ⟨#[115]⟩,.string ⟨#[]⟩]) (.int .i64 4)).run Tryz.prog W= .ok (.agg #[.string ⟨#[101,100]⟩,.string ⟨#[]⟩]) W:=by kernel_rfl
theorem YW (W:World):(Instr.index 196 (.agg #[.string ⟨#[115,115,101,115]⟩,.string ⟨#[115,115]⟩,.string ⟨#[105,101,115]⟩,.string ⟨#[121]⟩,.string ⟨#[115,115]⟩,.string ⟨#[115,115]⟩,.string ⟨#[105,110,103]⟩,.string ⟨#[]⟩,.string ⟨#[101,100]⟩,.string ⟨#[]⟩,.string ⟨#[101,115]⟩,.string ⟨#[101]⟩,.string ⟨#[115]⟩,.string ⟨#[]⟩]) (.int .i64 5)).run Tryz.prog W= .ok (.agg #[.string ⟨#[101,115]⟩,.string ⟨#[101]⟩]) W:=by kernel_rfl
theorem YV (W:World):(Instr.index 196 (.agg #[.string ⟨#[115,115,101,115]⟩,.string ⟨#[115,115]⟩,.string ⟨#[105,101,115]⟩,.string ⟨#[121]⟩,.string ⟨#[115,115]⟩,.string ⟨#[115,115]⟩,.string ⟨#[105,110,103]⟩,.string ⟨#[]⟩,.string ⟨#[101,100]⟩,.string ⟨#[]⟩,.string ⟨#[101,115]⟩,.string ⟨#[101]⟩,.string ⟨#[115]⟩,.string ⟨#[]⟩]) (.int .i64 6)).run Tryz.prog W= .ok (.agg #[.string ⟨#[115]⟩,.string ⟨#[]⟩]) W:=by kernel_rfl
set_option maxHeartbeats 4000000
theorem IU (s:ByteArray) (w:World) (hs:s.size<=1000000):
  Calls Tryz.prog 64 #[.string s] w fun e w'=>e= .returned (.string (EP s))/\Below w.heap.size w w':=by
 have HR:Hid (AW (B6.drop 0) s=EP s):=rfl;generalize EP s=R at *;go_enter Tryz.func64,Tryz.ntmps64;go_wp2;go_loopw [14] (fun i wr=>∃k:Nat,k<=7/\i= .int .i64 k/\Hid (Below w.heap.size w wr/\AW (B6.drop k) s=R)) (fun i _=>7-(intOf i).toNat)
 case atStart=>exact⟨0,Nat.zero_le _,rfl,Below.refl _ _,HR.out⟩
 case round=>
  clear HR;obtain⟨k,hk,rfl,hz⟩:=hrel;have hk7:k=0\/k=1\/k=2\/k=3\/k=4\/k=5\/k=6\/k=7:=by omega
  rcases hk7 with rfl|rfl|rfl|rfl|rfl|rfl|rfl|rfl
  ·have hix:=Zb wr
   by_cases hle:4<=s.size
   ·have hd:decide ((s.size:Int)-4<0)=false:=by simp;omega
    have hlt:¬((s.size:Int)-4<0):=by omega
    have hq:=FD (s:=s) (e:=⟨#[115,115,101,115]⟩) (l:=[115,115,101,115]) hle (by kernel_rfl)
    cases hb:CA s ⟨#[115,115,101,115]⟩
    ·rw[hb]at hq
     have hq2:((s.extract (s.size-4) s.size).toList == [115,115,101,115])=false:=hq.symm;clear hq;go_wp2;go_quiet (fail);go_wp2;go_roundw
     case rel=>exact⟨1,by omega,by go_num,by have:=hz.out.1.size;exact below_drewN (hz.out.1.alloc this _) _,(Bm hb).symm.trans hz.out.2⟩
     case measure=>simp[intOf]
    ·rw[hb]at hq
     have hq2:((s.extract (s.size-4) s.size).toList == [115,115,101,115])=true:=hq.symm;clear hq
     by_cases h3:4+3<=s.size
     ·have HS:Hid (s.extract 0 (s.size-4)++⟨#[115,115]⟩=R):=(BL (r:=⟨#[115,115]⟩) (t:=B6.drop 1) hb h3).symm.trans hz.out.2
      have h3':(3:Int)<=(s.size:Int)-4:=by omega
      go_wp2;go_quiet (fail);go_wp2
      go_region
      go_wp2;go_ret;rw[HS.out];exact⟨rfl,by have:=hz.out.1.size;exact(below_drewN (hz.out.1.alloc this _) _).drew⟩
     ·have HS:Hid (s=R):=(AV (r:=⟨#[115,115]⟩) (t:=B6.drop 1) hb h3).symm.trans hz.out.2
      have h3':(s.size:Int)-4<3:=by omega
      go_wp2;go_quiet (fail);go_wp2;go_ret;rw[HS.out];exact⟨rfl,by have:=hz.out.1.size;exact below_drewN (hz.out.1.alloc this _) _⟩
   ·have hd:decide ((s.size:Int)-4<0)=true:=by simp;omega
    have hlt:(s.size:Int)-4<0:=by omega
    have hb:CA s ⟨#[115,115,101,115]⟩=false:=Df (by show s.size<4;omega);go_wp2;go_quiet (fail);go_wp2;go_roundw
    case rel=>exact⟨1,by omega,by go_num,by have:=hz.out.1.size;exact below_drewN (hz.out.1.alloc this _) _,(Bm hb).symm.trans hz.out.2⟩
    case measure=>simp[intOf]
  ·have hix:=Za wr
   by_cases hle:3<=s.size
   ·have hd:decide ((s.size:Int)-3<0)=false:=by simp;omega
    have hlt:¬((s.size:Int)-3<0):=by omega
    have hq:=FD (s:=s) (e:=⟨#[105,101,115]⟩) (l:=[105,101,115]) hle (by kernel_rfl)
    cases hb:CA s ⟨#[105,101,115]⟩
    ·rw[hb]at hq
     have hq2:((s.extract (s.size-3) s.size).toList == [105,101,115])=false:=hq.symm;clear hq;go_wp2;go_quiet (fail);go_wp2;go_roundw
     case rel=>exact⟨2,by omega,by go_num,by have:=hz.out.1.size;exact below_drewN (hz.out.1.alloc this _) _,(Bm hb).symm.trans hz.out.2⟩
     case measure=>simp[intOf]
    ·rw[hb]at hq
     have hq2:((s.extract (s.size-3) s.size).toList == [105,101,115])=true:=hq.symm;clear hq
     by_cases h3:3+3<=s.size
     ·have HS:Hid (s.extract 0 (s.size-3)++⟨#[121]⟩=R):=(BL (r:=⟨#[121]⟩) (t:=B6.drop 2) hb h3).symm.trans hz.out.2
      have h3':(3:Int)<=(s.size:Int)-3:=by omega
      go_wp2;go_quiet (fail);go_wp2
      go_region
      go_wp2;go_ret;rw[HS.out];exact⟨rfl,by have:=hz.out.1.size;exact(below_drewN (hz.out.1.alloc this _) _).drew⟩
     ·have HS:Hid (s=R):=(AV (r:=⟨#[121]⟩) (t:=B6.drop 2) hb h3).symm.trans hz.out.2
      have h3':(s.size:Int)-3<3:=by omega
      go_wp2;go_quiet (fail);go_wp2;go_ret;rw[HS.out];exact⟨rfl,by have:=hz.out.1.size;exact below_drewN (hz.out.1.alloc this _) _⟩
   ·have hd:decide ((s.size:Int)-3<0)=true:=by simp;omega
    have hlt:(s.size:Int)-3<0:=by omega
    have hb:CA s ⟨#[105,101,115]⟩=false:=Df (by show s.size<3;omega);go_wp2;go_quiet (fail);go_wp2;go_roundw
    case rel=>exact⟨2,by omega,by go_num,by have:=hz.out.1.size;exact below_drewN (hz.out.1.alloc this _) _,(Bm hb).symm.trans hz.out.2⟩
    case measure=>simp[intOf]
  ·have hix:=YZ wr
   by_cases hle:2<=s.size
   ·have hd:decide ((s.size:Int)-2<0)=false:=by simp;omega
    have hlt:¬((s.size:Int)-2<0):=by omega
    have hq:=FD (s:=s) (e:=⟨#[115,115]⟩) (l:=[115,115]) hle (by kernel_rfl)
    cases hb:CA s ⟨#[115,115]⟩
    ·rw[hb]at hq
     have hq2:((s.extract (s.size-2) s.size).toList == [115,115])=false:=hq.symm;clear hq;go_wp2;go_quiet (fail);go_wp2;go_roundw
     case rel=>exact⟨3,by omega,by go_num,by have:=hz.out.1.size;exact below_drewN (hz.out.1.alloc this _) _,(Bm hb).symm.trans hz.out.2⟩
     case measure=>simp[intOf]
    ·rw[hb]at hq
     have hq2:((s.extract (s.size-2) s.size).toList == [115,115])=true:=hq.symm;clear hq
     by_cases h3:2+3<=s.size
     ·have HS:Hid (s.extract 0 (s.size-2)++⟨#[115,115]⟩=R):=(BL (r:=⟨#[115,115]⟩) (t:=B6.drop 3) hb h3).symm.trans hz.out.2
      have h3':(3:Int)<=(s.size:Int)-2:=by omega
      go_wp2;go_quiet (fail);go_wp2
      go_region
      go_wp2;go_ret;rw[HS.out];exact⟨rfl,by have:=hz.out.1.size;exact(below_drewN (hz.out.1.alloc this _) _).drew⟩
     ·have HS:Hid (s=R):=(AV (r:=⟨#[115,115]⟩) (t:=B6.drop 3) hb h3).symm.trans hz.out.2
      have h3':(s.size:Int)-2<3:=by omega
      go_wp2;go_quiet (fail);go_wp2;go_ret;rw[HS.out];exact⟨rfl,by have:=hz.out.1.size;exact below_drewN (hz.out.1.alloc this _) _⟩
   ·have hd:decide ((s.size:Int)-2<0)=true:=by simp;omega
    have hlt:(s.size:Int)-2<0:=by omega
    have hb:CA s ⟨#[115,115]⟩=false:=Df (by show s.size<2;omega);go_wp2;go_quiet (fail);go_wp2;go_roundw
    case rel=>exact⟨3,by omega,by go_num,by have:=hz.out.1.size;exact below_drewN (hz.out.1.alloc this _) _,(Bm hb).symm.trans hz.out.2⟩
    case measure=>simp[intOf]
  ·have hix:=YY wr
   by_cases hle:3<=s.size
   ·have hd:decide ((s.size:Int)-3<0)=false:=by simp;omega
    have hlt:¬((s.size:Int)-3<0):=by omega
    have hq:=FD (s:=s) (e:=⟨#[105,110,103]⟩) (l:=[105,110,103]) hle (by kernel_rfl)
    cases hb:CA s ⟨#[105,110,103]⟩
    ·rw[hb]at hq
     have hq2:((s.extract (s.size-3) s.size).toList == [105,110,103])=false:=hq.symm;clear hq;go_wp2;go_quiet (fail);go_wp2;go_roundw
     case rel=>exact⟨4,by omega,by go_num,by have:=hz.out.1.size;exact below_drewN (hz.out.1.alloc this _) _,(Bm hb).symm.trans hz.out.2⟩
     case measure=>simp[intOf]
    ·rw[hb]at hq
     have hq2:((s.extract (s.size-3) s.size).toList == [105,110,103])=true:=hq.symm;clear hq
     by_cases h3:3+3<=s.size
     ·have HS:Hid (s.extract 0 (s.size-3)++⟨#[]⟩=R):=(BL (r:=⟨#[]⟩) (t:=B6.drop 4) hb h3).symm.trans hz.out.2
      have h3':(3:Int)<=(s.size:Int)-3:=by omega
      go_wp2;go_quiet (fail);go_wp2
      go_region
      go_wp2;go_ret;rw[HS.out];exact⟨rfl,by have:=hz.out.1.size;exact(below_drewN (hz.out.1.alloc this _) _).drew⟩
     ·have HS:Hid (s=R):=(AV (r:=⟨#[]⟩) (t:=B6.drop 4) hb h3).symm.trans hz.out.2
      have h3':(s.size:Int)-3<3:=by omega
      go_wp2;go_quiet (fail);go_wp2;go_ret;rw[HS.out];exact⟨rfl,by have:=hz.out.1.size;exact below_drewN (hz.out.1.alloc this _) _⟩
   ·have hd:decide ((s.size:Int)-3<0)=true:=by simp;omega
    have hlt:(s.size:Int)-3<0:=by omega
    have hb:CA s ⟨#[105,110,103]⟩=false:=Df (by show s.size<3;omega);go_wp2;go_quiet (fail);go_wp2;go_roundw
    case rel=>exact⟨4,by omega,by go_num,by have:=hz.out.1.size;exact below_drewN (hz.out.1.alloc this _) _,(Bm hb).symm.trans hz.out.2⟩
    case measure=>simp[intOf]
  ·have hix:=YX wr
   by_cases hle:2<=s.size
   ·have hd:decide ((s.size:Int)-2<0)=false:=by simp;omega
    have hlt:¬((s.size:Int)-2<0):=by omega
    have hq:=FD (s:=s) (e:=⟨#[101,100]⟩) (l:=[101,100]) hle (by kernel_rfl)
    cases hb:CA s ⟨#[101,100]⟩
    ·rw[hb]at hq
     have hq2:((s.extract (s.size-2) s.size).toList == [101,100])=false:=hq.symm;clear hq;go_wp2;go_quiet (fail);go_wp2;go_roundw
     case rel=>exact⟨5,by omega,by go_num,by have:=hz.out.1.size;exact below_drewN (hz.out.1.alloc this _) _,(Bm hb).symm.trans hz.out.2⟩
     case measure=>simp[intOf]
    ·rw[hb]at hq
     have hq2:((s.extract (s.size-2) s.size).toList == [101,100])=true:=hq.symm;clear hq
     by_cases h3:2+3<=s.size
     ·have HS:Hid (s.extract 0 (s.size-2)++⟨#[]⟩=R):=(BL (r:=⟨#[]⟩) (t:=B6.drop 5) hb h3).symm.trans hz.out.2
      have h3':(3:Int)<=(s.size:Int)-2:=by omega
      go_wp2;go_quiet (fail);go_wp2
      go_region
      go_wp2;go_ret;rw[HS.out];exact⟨rfl,by have:=hz.out.1.size;exact(below_drewN (hz.out.1.alloc this _) _).drew⟩
     ·have HS:Hid (s=R):=(AV (r:=⟨#[]⟩) (t:=B6.drop 5) hb h3).symm.trans hz.out.2
      have h3':(s.size:Int)-2<3:=by omega
      go_wp2;go_quiet (fail);go_wp2;go_ret;rw[HS.out];exact⟨rfl,by have:=hz.out.1.size;exact below_drewN (hz.out.1.alloc this _) _⟩
   ·have hd:decide ((s.size:Int)-2<0)=true:=by simp;omega
    have hlt:(s.size:Int)-2<0:=by omega
    have hb:CA s ⟨#[101,100]⟩=false:=Df (by show s.size<2;omega);go_wp2;go_quiet (fail);go_wp2;go_roundw
    case rel=>exact⟨5,by omega,by go_num,by have:=hz.out.1.size;exact below_drewN (hz.out.1.alloc this _) _,(Bm hb).symm.trans hz.out.2⟩
    case measure=>simp[intOf]
  ·have hix:=YW wr
   by_cases hle:2<=s.size
   ·have hd:decide ((s.size:Int)-2<0)=false:=by simp;omega
    have hlt:¬((s.size:Int)-2<0):=by omega
    have hq:=FD (s:=s) (e:=⟨#[101,115]⟩) (l:=[101,115]) hle (by kernel_rfl)
    cases hb:CA s ⟨#[101,115]⟩
    ·rw[hb]at hq
     have hq2:((s.extract (s.size-2) s.size).toList == [101,115])=false:=hq.symm;clear hq;go_wp2;go_quiet (fail);go_wp2;go_roundw
     case rel=>exact⟨6,by omega,by go_num,by have:=hz.out.1.size;exact below_drewN (hz.out.1.alloc this _) _,(Bm hb).symm.trans hz.out.2⟩
     case measure=>simp[intOf]
    ·rw[hb]at hq
     have hq2:((s.extract (s.size-2) s.size).toList == [101,115])=true:=hq.symm;clear hq
     by_cases h3:2+3<=s.size
     ·have HS:Hid (s.extract 0 (s.size-2)++⟨#[101]⟩=R):=(BL (r:=⟨#[101]⟩) (t:=B6.drop 6) hb h3).symm.trans hz.out.2
      have h3':(3:Int)<=(s.size:Int)-2:=by omega
      go_wp2;go_quiet (fail);go_wp2
      go_region
      go_wp2;go_ret;rw[HS.out];exact⟨rfl,by have:=hz.out.1.size;exact(below_drewN (hz.out.1.alloc this _) _).drew⟩
     ·have HS:Hid (s=R):=(AV (r:=⟨#[101]⟩) (t:=B6.drop 6) hb h3).symm.trans hz.out.2
      have h3':(s.size:Int)-2<3:=by omega
      go_wp2;go_quiet (fail);go_wp2;go_ret;rw[HS.out];exact⟨rfl,by have:=hz.out.1.size;exact below_drewN (hz.out.1.alloc this _) _⟩
   ·have hd:decide ((s.size:Int)-2<0)=true:=by simp;omega
    have hlt:(s.size:Int)-2<0:=by omega
    have hb:CA s ⟨#[101,115]⟩=false:=Df (by show s.size<2;omega);go_wp2;go_quiet (fail);go_wp2;go_roundw
    case rel=>exact⟨6,by omega,by go_num,by have:=hz.out.1.size;exact below_drewN (hz.out.1.alloc this _) _,(Bm hb).symm.trans hz.out.2⟩
    case measure=>simp[intOf]
  ·have hix:=YV wr
   by_cases hle:1<=s.size
   ·have hd:decide ((s.size:Int)-1<0)=false:=by simp;omega
    have hlt:¬((s.size:Int)-1<0):=by omega
    have hq:=FD (s:=s) (e:=⟨#[115]⟩) (l:=[115]) hle (by kernel_rfl)
    cases hb:CA s ⟨#[115]⟩
    ·rw[hb]at hq
     have hq2:((s.extract (s.size-1) s.size).toList == [115])=false:=hq.symm;clear hq;go_wp2;go_quiet (fail);go_wp2;go_roundw
     case rel=>exact⟨7,by omega,by go_num,by have:=hz.out.1.size;exact below_drewN (hz.out.1.alloc this _) _,(Bm hb).symm.trans hz.out.2⟩
     case measure=>simp[intOf]
    ·rw[hb]at hq
     have hq2:((s.extract (s.size-1) s.size).toList == [115])=true:=hq.symm;clear hq
     by_cases h3:1+3<=s.size
     ·have HS:Hid (s.extract 0 (s.size-1)++⟨#[]⟩=R):=(BL (r:=⟨#[]⟩) (t:=B6.drop 7) hb h3).symm.trans hz.out.2
      have h3':(3:Int)<=(s.size:Int)-1:=by omega
      go_wp2;go_quiet (fail);go_wp2
      go_region
      go_wp2;go_ret;rw[HS.out];exact⟨rfl,by have:=hz.out.1.size;exact(below_drewN (hz.out.1.alloc this _) _).drew⟩
     ·have HS:Hid (s=R):=(AV (r:=⟨#[]⟩) (t:=B6.drop 7) hb h3).symm.trans hz.out.2
      have h3':(s.size:Int)-1<3:=by omega
      go_wp2;go_quiet (fail);go_wp2;go_ret;rw[HS.out];exact⟨rfl,by have:=hz.out.1.size;exact below_drewN (hz.out.1.alloc this _) _⟩
   ·have hd:decide ((s.size:Int)-1<0)=true:=by simp;omega
    have hlt:(s.size:Int)-1<0:=by omega
    have hb:CA s ⟨#[115]⟩=false:=Df (by show s.size<1;omega);go_wp2;go_quiet (fail);go_wp2;go_roundw
    case rel=>exact⟨7,by omega,by go_num,by have:=hz.out.1.size;exact below_drewN (hz.out.1.alloc this _) _,(Bm hb).symm.trans hz.out.2⟩
    case measure=>simp[intOf]
  ·have HS:Hid (s=R):=hz.out.2
   go_wp2;go_ret;rw[HS.out];exact⟨rfl,hz.out.1⟩
theorem Fh (s:ByteArray) (w:World) (hs:s.size<=900000):
  Calls Tryz.prog 29 #[.string s] w fun e w'=>∃v,e= .returned v/\w'.ownsRow w.heap.size 9 1 v (Ad s.data.toList).length (sc (Ad s.data.toList))/\Below w.heap.size w w':=by
 obtain⟨i0,hi,hz0,hz1,hz2⟩:=Ja;have HW:Hid ((Ad s.data.toList).length<=900001):=by show _<=_;have:=CK s.data.toList;rw[AF]at this;omega
 generalize hWs:Ad s.data.toList=W at *;have HS:Hid (Ad s.data.toList=W):=hWs;clear hWs;go_enter Tryz.func29,Tryz.ntmps29;go_wp2;go_loopw [3,4,5] (fun v r i wr=>∃(k:Nat) (run:ByteArray) (ws:List ByteArray),k<=s.size+1/\run.size<=k/\r= .string run/\i= .int .i64 k/\Hid (k<=s.size->ws++(Eb run.data.toList (s.data.toList.drop k)).map BC=W)/\Hid (k=s.size+1->ws=W)/\Hid (ws.length<=900001)/\Hid (wr.ownsRow w.heap.size 9 1 v ws.length (sc ws)/\Below w.heap.size w wr)) (fun _ _ i _=>s.size+1-(intOf i).toNat)
 case atStart=>exact⟨0,⟨#[]⟩,[],by omega,by decide,rfl,rfl,fun _=>HS.out,fun h=>by omega,by show _<=_;simp,World.ownsRow_nil w _ 9 1,Below.refl _ _⟩
 case round=>
  clear HS;obtain⟨k,run,ws,hk,hrun,rfl,rfl,hws,hwe,HL,hown⟩:=hrel
  by_cases hle:k<=s.size
  ·have hle':(k:Int)<=(s.size:Int):=by omega
   go_upto_if 18 with fail
   go_cut [6] (fun b wx=>∃q:Bool,b= .bool q/\Hid ((q=true->∃h:k<s.size,isL s[k]=true)/\(q=false->k=s.size\/∃h:k<s.size,isL s[k]=false))/\wr=wx)
   case first=>
    by_cases hlt:k<s.size
    ·have hlt':(k:Int)<(s.size:Int):=by omega
     obtain⟨x,hx⟩:∃x,s[k].toNat=x:=⟨_,rfl⟩
     have HX:Hid (∀q,GH x=q->(q=true->∃h:k<s.size,isL s[k]=true)/\(q=false->k=s.size\/∃h:k<s.size,isL s[k]=false)):=by
      intro q hq;have e:isL s[k]=q:=by rw[isL,hx];exact hq
      exact⟨fun h=>⟨hlt,e.trans h⟩,fun h=> .inr ⟨hlt,e.trans h⟩⟩
     obtain⟨a1,e1⟩:∃b,decide ((65:Int)<=(x:Int))=b:=⟨_,rfl⟩;obtain⟨a2,e2⟩:∃b,decide ((x:Int)<=90)=b:=⟨_,rfl⟩;obtain⟨a3,e3⟩:∃b,decide ((97:Int)<=(x:Int))=b:=⟨_,rfl⟩;obtain⟨a4,e4⟩:∃b,decide ((x:Int)<=122)=b:=⟨_,rfl⟩;obtain⟨a5,e5⟩:∃b,decide ((48:Int)<=(x:Int))=b:=⟨_,rfl⟩;obtain⟨a6,e6⟩:∃b,decide ((x:Int)<=57)=b:=⟨_,rfl⟩;obtain⟨a7,e7⟩:∃b,decide ((128:Int)<=(x:Int))=b:=⟨_,rfl⟩
     have HR:Hid (GH x=(a3 && a4 || a1 && a2 || a5 && a6 || a7)):=by
      show _=_;rw[UN,<-e1,<-e2,<-e3,<-e4,<-e5,<-e6,<-e7,Bool.eq_iff_iff];simp;omega
     cases a1<;>cases a2<;>cases a3<;>cases a4<;>cases a5<;>cases a6<;>cases a7<;>first
      |(exfalso;simp only[decide_eq_true_eq,decide_eq_false_iff_not]at e1 e2 e3 e4 e5 e6 e7;clear HR HX;omega)
      |(go_wp2
        go_meet
        case rel=>exact⟨_,rfl,HX.out _ HR.out,rfl⟩)
    ·have hlt':¬(k:Int)<(s.size:Int):=by omega
     go_wp2;go_meet
     case rel=>exact⟨false,rfl,⟨fun h=>by simp at h,fun _=> .inl (by omega)⟩,rfl⟩
   case rest=>
    obtain⟨q,rfl,hq,hwc⟩:=hcut;subst hwc
    cases q
    ·have HF:Hid (∀ws',ws'=ws++(if run.data.toList.isEmpty then []else [BC run.data.toList])->(k+1<=s.size->ws'++(Eb (⟨#[]⟩:ByteArray).data.toList (s.data.toList.drop (k+1))).map BC=W)/\(k+1=s.size+1->ws'=W)/\ws'.length<=900001):=by
      intro ws' e;subst e;have h0:=hws.out hle;rcases hq.out.2 rfl with hk2|⟨hlt,hL⟩
      ·rw[List.drop_eq_nil_of_le (by rw[AF];omega),Eb]at h0
       have h1:ws++(if run.data.toList.isEmpty then []else [BC run.data.toList])=W:=by
        rw[<-h0];split<;>simp
       exact⟨fun h=>by omega,fun _=>h1,by rw[h1];exact HW.out⟩
      ·rw[CZ s k hlt,Eb,hL]at h0
       have h1:ws++(if run.data.toList.isEmpty then []else [BC run.data.toList])++(Eb [] (s.data.toList.drop (k+1))).map BC=W:=by
        rw[<-h0];simp;split<;>simp
       refine⟨fun _=>h1,fun h=>by omega,?_⟩;have h2:=HW.out;rw[<-h1]at h2;simp only[List.length_append]at h2 ⊢;omega
     clear hq hws hwe
     by_cases hr:run.size=0
     ·obtain rfl:run=⟨#[]⟩:=by
       cases run with
       |mk d=>
        have:d.size=0:=hr;simp[Array.size_eq_zero_iff.1 this]
      obtain⟨f1,f2,f3⟩:=HF.out ws (by simp);have F1:Hid _:=f1;have F2:Hid _:=f2;clear HF f1 f2 f3;go_wp2;go_roundw
      case rel=>exact⟨k+1,⟨#[]⟩,ws,by omega,by omega,rfl,by go_num,F1,F2,HL,hown⟩
      case measure=>simp[intOf];omega
     ·have HB:Hid (Below w.heap.size w wr):=hown.out.2
      have HO:Hid (wr.ownsRow w.heap.size 9 1 u3 ws.length (sc ws)):=hown.out.1;clear hown
      have hne:(run.toList == [])=false:=by
       cases hx:(run.toList == [])with
       |false=>rfl
       |true=>
        have e:run.toList=[]:=by simpa using hx
        rw[ByteArray.toList_eq]at e;have:=congrArg List.length e;rw[AF]at this;exact absurd this hr
      go_wp2_with fail;refine(F7 _ _ (by omega)).mono ?_;rintro _ w1 ⟨rfl,hb1⟩;have HB1:Hid (Below w.heap.size w w1):=HB.out.trans (hb1.mono HB.out.size);have HO1:Hid (w1.ownsRow w.heap.size 9 1 u3 ws.length (sc ws)):=Fm HO.out hb1;clear HB HO hb1;have hsm:=Dk run
      by_cases h12:run.size<=12
      ·have h12':¬(12:Int)<(run.size:Int):=by omega
       have HQ:Hid (EP (A6 run)=BC run.data.toList):=J0 run h12;go_wp2_with fail;refine(IU _ _ (by omega)).mono ?_;rintro _ w2 ⟨rfl,hb2⟩;rw[HQ.out];have HB2:Hid (Below w.heap.size w w2):=HB1.out.trans (hb2.mono HB1.out.size);have HO2:Hid (w2.ownsRow w.heap.size 9 1 u3 ws.length (sc ws)):=Fm HO1.out hb2;clear HB1 HO1 hb2 HQ h12' hsm;obtain⟨x,hx⟩:∃x,BC run.data.toList=x:=⟨_,rfl⟩;rw[hx]
       have hemp:run.data.toList.isEmpty=false:=by
        cases hy:run.data.toList with
        |nil=>exact absurd (by rw[<-AF,hy];rfl) hr
        |cons _ _=>rfl
       obtain⟨f1,f2,f3⟩:=HF.out (ws++[x]) (by rw[hemp,hx];simp);have F1:Hid _:=f1;have F2:Hid _:=f2;have F3:Hid _:=f3;clear hx HF f1 f2 f3 hemp hne
       go_wp2_with (at_builtin;refine wpList_append_own _ rfl _ _ 22 rfl w.heap.size 9 i0 (.string ⟨#[]⟩) 1 16 Tryz.underlying22 hi hz0 hz1 hz2 rfl (by decide) _ _ _ rfl (HO2.out.alloc _) ⟨w2.heap.size,0,none⟩ 1 1 [.string x] rfl rfl ?c1 ?c2 ?c3 ?c4 ?c5 ?_)
       case c1=>exact cell_one_new _ _ _
       case c2=>intro y hy;simp at hy;subst hy;rfl
       case c3=>have:=HL.out;simp[maxLen];omega
       case c4=>have:=HL.out;omega
       case c5=>have:=HB2.out.size;simp;omega
       ·intro v' w3 hown' hgrow _
        have hbl':=HB2.out.size;have HB3:Hid (Below w.heap.size w w3):=(HB2.out.alloc (by omega) _).grown hgrow (by simp;omega) (fun g hg=>(HO2.out.lt g hg).1);have HO3:Hid (w3.ownsRow w.heap.size 9 1 v' (ws++[x]).length (sc (ws++[x]))):=Hb hown' (by simp) (by simp[sc]);clear HB2 HO2 hown' hgrow hbl' HL;go_wp2;go_roundw
        case rel=>exact⟨k+1,⟨#[]⟩,ws++[x],by omega,Nat.zero_le _,rfl,by go_num,F1,F2,F3,HO3.out,HB3.out⟩
        case measure=>simp[intOf];omega
      ·have h12':(12:Int)<(run.size:Int):=by omega
       have HQ:Hid (EP ((A6 run).extract 0 12)=BC run.data.toList):=KM run;go_wp2_with fail;refine(IU _ _ (by simp;omega)).mono ?_;rintro _ w2 ⟨rfl,hb2⟩;rw[HQ.out];have HB2:Hid (Below w.heap.size w w2):=HB1.out.trans (hb2.mono HB1.out.size);have HO2:Hid (w2.ownsRow w.heap.size 9 1 u3 ws.length (sc ws)):=Fm HO1.out hb2;clear HB1 HO1 hb2 HQ h12' hsm;obtain⟨x,hx⟩:∃x,BC run.data.toList=x:=⟨_,rfl⟩;rw[hx]
       have hemp:run.data.toList.isEmpty=false:=by
        cases hy:run.data.toList with
        |nil=>exact absurd (by rw[<-AF,hy];rfl) hr
        |cons _ _=>rfl
       obtain⟨f1,f2,f3⟩:=HF.out (ws++[x]) (by rw[hemp,hx];simp);have F1:Hid _:=f1;have F2:Hid _:=f2;have F3:Hid _:=f3;clear hx HF f1 f2 f3 hemp hne
       go_wp2_with (at_builtin;refine wpList_append_own _ rfl _ _ 22 rfl w.heap.size 9 i0 (.string ⟨#[]⟩) 1 16 Tryz.underlying22 hi hz0 hz1 hz2 rfl (by decide) _ _ _ rfl (HO2.out.alloc _) ⟨w2.heap.size,0,none⟩ 1 1 [.string x] rfl rfl ?c1 ?c2 ?c3 ?c4 ?c5 ?_)
       case c1=>exact cell_one_new _ _ _
       case c2=>intro y hy;simp at hy;subst hy;rfl
       case c3=>have:=HL.out;simp[maxLen];omega
       case c4=>have:=HL.out;omega
       case c5=>have:=HB2.out.size;simp;omega
       ·intro v' w3 hown' hgrow _
        have hbl':=HB2.out.size;have HB3:Hid (Below w.heap.size w w3):=(HB2.out.alloc (by omega) _).grown hgrow (by simp;omega) (fun g hg=>(HO2.out.lt g hg).1);have HO3:Hid (w3.ownsRow w.heap.size 9 1 v' (ws++[x]).length (sc (ws++[x]))):=Hb hown' (by simp) (by simp[sc]);clear HB2 HO2 hown' hgrow hbl' HL;go_wp2;go_roundw
        case rel=>exact⟨k+1,⟨#[]⟩,ws++[x],by omega,Nat.zero_le _,rfl,by go_num,F1,F2,F3,HO3.out,HB3.out⟩
        case measure=>simp[intOf];omega
    ·obtain⟨hlt,hL⟩:=hq.out.1 rfl
     have HF:Hid (k+1<=s.size->ws++(Eb (run++s.extract k (k+1)).data.toList (s.data.toList.drop (k+1))).map BC=W):=by
      intro _;have h0:=hws.out hle;rw[CZ s k hlt,Eb,if_pos hL]at h0
      have e:(run++s.extract k (k+1)).data.toList=run.data.toList++[s[k]]:=by
       rw[ByteArray.data_append,Array.toList_append,Ch];congr 1;rw[List.drop_take,CZ s k hlt];simp
      rw[e];exact h0
     clear hq hws hwe hL;go_wp2;go_roundw
     case rel=>exact⟨k+1,_,ws,by omega,by simp[ByteArray.size_append,ByteArray.size_extract];omega,rfl,by go_num,HF,fun h=>by omega,HL,hown⟩
     case measure=>simp[intOf];omega
  ·go_wp2
   go_ret;have e:ws=W:=hwe.out (by omega);subst e;exact⟨_,rfl,hown.out.1,hown.out.2⟩
end
end Go.Proofs.YtgfldnaahojnlaaGreatDoor
