/- StoreFinds: part 27. -/
import Derived.Test.YtihnldkgeelehaaGreatDoorF26
import Derived.Laws.MakeOwn
set_option maxRecDepth 100000
set_option maxHeartbeats 4000000
namespace Go.Proofs.YtihnldkgeelehaaGreatDoor
section
open Go.RowKit
def Av (n s:Nat):List UInt8:=(List.range s).map fun i=>UInt8.ofNat (n / 256 ^ (s-1-i))
structure F7 (B s:Nat) (g:Nat->Nat) (w:World):Prop where
 cell:∀j,j<s->w.cell? ⟨B,j,none⟩=some (.int .u8 (g j:Nat))
 free:∀j,w.frozen? ⟨B,j,none⟩=false
theorem F7.text {B s:Nat} {l:List UInt8} {w:World} (h:F7 B s (fun j=>(l.getD j 0).toNat) w) (hl:l.length=s):(convert 199 9 (.slice (some ⟨B,0,none⟩) s s)).run Tryz.prog w= .ok (.string (An l)) w:=by
 subst hl
 exact run_convert_bytes_back (P:=Tryz.prog) w 199 9 5 ⟨B,0,none⟩ l.length l Tryz.underlying199 Tryz.underlying5 Tryz.underlying9 (fun j hj=>by
  rw[Addr.add_lit,Nat.zero_add,h.cell j hj];simp[List.getD_eq_getElem?_getD,hj])
theorem ML (s:Nat) (hs:s<=8) (w:World):(Instr.makeSlice 199 (.int .i64 (s:Nat)) (.int .i64 (s:Nat))).run Tryz.prog w= .ok (.slice (some ⟨w.heap.size,0,none⟩) s s) (w.alloc (.cells (madeCells (Value.int .u8 0).cells s) 5)):=by
 obtain⟨i0,hi,hz0,hz1,hz2⟩:=C4w IG;have h:=run_make (P:=Tryz.prog) w 199 5 i0 (.int .u8 0) Tryz.underlying199 hi hz0 .i64 .i64 (s:Nat) (s:Nat) (by omega) (Int.le_refl _) (by rw[hz2];omega) (by omega);rw[hz1]at h;simpa using h
theorem KQ (s:Nat) (w:World):F7 w.heap.size s (fun _=>0) (w.alloc (.cells (madeCells (Value.int .u8 0).cells s) 5)):=by
 have hn':=heap_alloc_new w (.cells (madeCells (Value.int .u8 0).cells s) 5);refine⟨fun j hj=> ?_,fun j=> ?_⟩
 ·simp only[World.cell?,hn']
  simp[madeCells,hj,Value.cells,Nat.mod_one]
 ·simp only[World.frozen?,hn']
  simp
theorem F7.set {B s k b:Nat} {g:Nat->Nat} {w:World} (h:F7 B s g w) (hk:k<s):F7 B s (fun j=>if j=k then b else g j) (w.setCell ⟨B,k,none⟩ (.int .u8 (b:Nat))):=by
 refine⟨fun j hj=> ?_,fun j=>by rw[World.frozen?_setCell];exact h.free j⟩
 by_cases e:j=k
 ·subst e
  rw[World.cell?_setCell_same _ _ _ (h.cell j hj),if_pos rfl]
 ·rw[World.cell?_setCell_other _ _ _ _ (fun e'=>e (by injection e' with e1 e2;omega)),h.cell j hj,if_neg e]
theorem JN {a:Int} (h1: -9223372036854775808<=a) (h2:a<=9223372036854775807):IntKind.i64.wrap a=a:=by rw[IntKind.wrap_i64];omega
theorem Td (m:Nat):(2:Nat) ^ (8 * m)=256 ^ m:=by rw[Nat.pow_mul]
theorem QT (n m:Nat):(n:Int) / 2 ^ (8 * m) % 256=((n / 256 ^ m % 256:Nat):Int):=by
 rw[<-Td m];simp
theorem Ay (n s:Nat):(Av n s).length=s:=by simp[Av]
theorem KH {n s j:Nat} (h:j<s):((Av n s).getD j 0).toNat=n / 256 ^ (s-1-j) % 256:=by
 simp[Av,List.getD_eq_getElem?_getD,h]
set_option maxHeartbeats 1000000
theorem DJ (n s:Nat) (hs:1<=s/\s<=8) (w:World):
  Calls Tryz.prog 67 #[.int .i64 (n:Nat),.int .i64 (s:Nat)] w fun e w'=>e= .returned (.string (An (Av n s)))/\Below w.heap.size w w':=by
 have hmk:=ML s hs.2
 have HW:Hid (F7 w.heap.size s (fun j=>if j<0 then n / 256 ^ (s-1-j) % 256 else 0) (w.alloc (.cells (madeCells (Value.int .u8 0).cells s) 5))):=by
  show F7 _ _ _ _;simpa using KQ s w
 have HB:Hid (Below w.heap.size w (w.alloc (.cells (madeCells (Value.int .u8 0).cells s) 5))):=(Below.refl _ w).alloc (Nat.le_refl _) _;go_enter Tryz.func67,Tryz.ntmps67;go_wp2_with fail;clear hmk;go_loopw [11] (fun i wr=>∃k:Nat,k<=s/\i= .int .i64 (k:Nat)/\Hid (F7 w.heap.size s (fun j=>if j<k then n / 256 ^ (s-1-j) % 256 else 0) wr)/\Hid (Below w.heap.size w wr)) (fun i _=>s+1-(intOf i).toNat)
 case atStart=>exact⟨0,Nat.zero_le _,rfl,HW,HB⟩
 case round=>
  clear HW HB;obtain⟨k,hk,rfl,HW,HB⟩:=hrel
  by_cases hlt:k<s
  ·have h1:(k:Int)<(s:Int):=by omega
   have w1:IntKind.i64.wrap ((s:Int)-1)=(s:Int)-1:=JN (by omega) (by omega);have w2:IntKind.i64.wrap ((s:Int)-1-(k:Int))=((s-1-k:Nat):Int):=by rw[JN (by omega) (by omega)];omega
   have w3:IntKind.i64.wrap (8 * ((s-1-k:Nat):Int))=((8 * (s-1-k):Nat):Int):=by rw[JN (by omega) (by omega)];omega
   have q0:=HW.out.cell k hlt;have f0:=HW.out.free k;go_wp2_with fail;go_roundw
   case rel=>
    refine⟨k+1,by omega,by go_num,?_,HB.out.setCell (Nat.le_refl _) _⟩;have:=HW.out.set (b:=n / 256 ^ (s-1-k) % 256) hlt;show F7 _ _ _ _;rw[QT n (s-1-k)];refine⟨fun j hj=> ?_,this.free⟩;rw[this.cell j hj]
    by_cases e:j=k
    ·subst e;simp
    ·have:(j<k+1)=(j<k):=by simp;omega
     simp[e,this]
   case measure=>simp[intOf];omega
  ·have h1:¬(k:Int)<(s:Int):=by omega
   obtain rfl:s=k:=by omega
   have hT:F7 w.heap.size s (fun j=>((Av n s).getD j 0).toNat) wr:=by
    refine⟨fun j hj=> ?_,HW.out.free⟩;rw[HW.out.cell j hj,if_pos hj,KH hj]
   have hcv:=hT.text (Ay n s);clear hT;go_wp2;go_ret;exact⟨rfl,HB.out⟩
theorem SO (a b:Nat) (ha:a<4000000000) (hb:b<256):
  bits .or .i64 ((a:Int) * 256) (b:Int)=((a * 256+b:Nat):Int):=by
 rw[show(a:Int) * 256=((a * 256:Nat):Int) by omega]
 have h1:(BitVec.ofInt 64 ((a * 256:Nat):Int)).toNat=a * 256:=by
  rw[BitVec.ofInt_natCast,BitVec.toNat_ofNat];exact Nat.mod_eq_of_lt (by omega)
 have h2:(BitVec.ofInt 64 (b:Int)).toNat=b:=by
  rw[BitVec.ofInt_natCast,BitVec.toNat_ofNat];exact Nat.mod_eq_of_lt (by omega)
 show IntKind.i64.wrap ((BitVec.ofInt 64 ((a * 256:Nat):Int) ||| BitVec.ofInt 64 (b:Int)).toNat:Int)=_;rw[BitVec.toNat_or,h1,h2]
 have h3:a * 256 ||| b=a * 256+b:=by
  have:=Nat.two_pow_add_eq_or_of_lt (i:=8) (b:=b) (by omega) a;rw[Nat.mul_comm];exact this.symm
 rw[h3];exact JN (by omega) (by omega)
theorem GW (n s:Nat):∀k,k<=s->BS ((Av n s).take k)=n / 256 ^ (s-k) % 256 ^ k
 |0,_=>by simp[BS,Nat.mod_one]
 |k+1,hk=>by
  have hlt:k<(Av n s).length:=by rw[Ay];omega
  rw[FV _ k hlt,GW n s k (by omega)]
  have hb:(Av n s)[k].toNat=n / 256 ^ (s-1-k) % 256:=by
   have:=KH (n:=n) (s:=s) (j:=k) (by omega);rw[List.getD_eq_getElem?_getD,List.getElem?_eq_getElem hlt]at this;simpa using this
  rw[hb];have e1:s-k=(s-1-k)+1:=by omega
  have e2:s-(k+1)=s-1-k:=by omega
  rw[e1,e2,Nat.pow_succ,<-Nat.div_div_eq_div_mul];generalize n / 256 ^ (s-1-k)=m;rw[Nat.pow_succ,Nat.mul_comm (256 ^ k) 256,Nat.mod_mul];omega
theorem Jk {n s:Nat} (h:n<256 ^ s):BS (Av n s)=n:=by
 have:=GW n s s (Nat.le_refl _);rw[List.take_of_length_le (by rw[Ay];exact Nat.le_refl _)]at this;simp at this;rw[this];exact Nat.mod_eq_of_lt h
theorem G0 {n m s:Nat} (hn:n<256 ^ s) (hm:m<256 ^ s) (h:Av n s=Av m s):n=m:=by
 rw[<-Jk hn,h,Jk hm]
theorem Hr (n s:Nat) (hn:n<4000000000) (hs:s<=8) (h:n<256 ^ s) (w:World):
  Calls Tryz.prog 101 #[.string (An (Av n s))] w fun e w'=>e= .returned (.int .i64 (n:Nat))/\w'=w:=by
 have hsz:(An (Av n s)).size=s:=by rw[Bh,Ay]
 obtain⟨t,ht⟩:∃t,An (Av n s)=t:=⟨_,rfl⟩;have HT:Hid _:=ht;rw[ht]at hsz ⊢;clear ht;have HN:Hid (n<256 ^ s):=h;clear h;go_enter Tryz.func101,Tryz.ntmps101;go_wp2
 go_loop [3,7] (fun u i=>∃k m:Nat,k<=s/\i= .int .i64 (k:Nat)/\u= .int .i64 (m:Nat)/\Hid (m=BS ((Av n s).take k))/\m<=n) (fun _ i=>s+1-(intOf i).toNat)
 case atStart=>exact⟨0,0,Nat.zero_le _,rfl,rfl,rfl,Nat.zero_le _⟩
 case round=>
  obtain⟨k,m,hk,rfl,rfl,hm,hmn⟩:=hrel
  by_cases hlt:k<s
  ·have h1:(k:Int)<(s:Int):=by omega
   have hkl:k<(Av n s).length:=by rw[Ay];exact hlt
   have hst:=FV (Av n s) k hkl
   have hle:BS ((Av n s).take (k+1))<=n:=by
    rw[GW n s (k+1) hlt];exact Nat.le_trans (Nat.mod_le _ _) (Nat.div_le_self _ _)
   rw[hst,<-hm.out]at hle;have hb:(Av n s)[k].toNat<256:=(Av n s)[k].toNat_lt;have hkt:k<t.size:=by rw[hsz];exact hlt
   have hbt:t[k]=(Av n s)[k]:=by
    have:=HT.out;subst this;rfl
   have wr1:IntKind.i64.wrap ((m:Int) * 256)=((m * 256:Nat):Int):=by rw[JN (by omega) (by omega)];omega
   have wr2:IntKind.i64.wrap ((Av n s)[k].toNat:Int)=((Av n s)[k].toNat:Int):=JN (by omega) (by omega);have hor:=SO m (Av n s)[k].toNat (by omega) hb;obtain⟨b,hbb⟩:∃b,(Av n s)[k]=b:=⟨_,rfl⟩;rw[hbb]at hst hb hbt wr2 hor hle;have HST:Hid _:=hst;have HLE:Hid _:=hle;have HM:Hid _:=hm.out;clear hst hle hm hbb;go_wp2
   go_round
   case rel=>exact⟨k+1,m * 256+b.toNat,by omega,by go_num,by simp,by show _=_;rw[HST.out,<-HM.out],HLE.out⟩
   case measure=>simp[intOf];omega
  ·have h1:¬(k:Int)<(s:Int):=by omega
   obtain rfl:s=k:=by omega
   have hmm:m=n:=by
    have:=hm.out;rw[List.take_of_length_le (by rw[Ay];exact Nat.le_refl _),Jk HN.out]at this;exact this
   subst hmm;go_wp2;go_ret;exact⟨rfl,rfl⟩
def tkB (t:Nat):ByteArray:=An (Av t 2)
def rkB (t r:Nat):ByteArray:=An (Av t 2++Av r 8)
def ckB (t c:Nat):ByteArray:=An (Av t 2++Av c 1)
def ikB (t c r:Nat) (x:Vl):ByteArray:=An (Av t 2++Av c 1++BD x++Av r 8)
theorem EU (a b:List UInt8) (h:a.length+b.length<=100000):Op.stringOp .add (An a) (An b)=pure (.string (An (a++b))):=by
 have hn:¬(((An a).size+(An b).size:Nat):Int) > IntKind.i64.max:=by
  have:IntKind.i64.max=9223372036854775807:=by decide
  rw[Bh,Bh];omega
 have e:An a++An b=An (a++b):=P2 a b;simp only[Op.stringOp,if_neg hn,e]
theorem Dz (t:Nat) (w:World):Calls Tryz.prog 27 #[.int .i64 (t:Nat)] w fun e w'=>e= .returned (.string (tkB t))/\Below w.heap.size w w':=by
 have HN:Hid _:=DJ t 2 (by omega) w;go_enter Tryz.func27,Tryz.ntmps27;go_wp2_with fail;refine(show Calls _ _ _ _ _ from HN.out).mono ?_;rintro _ w1 ⟨rfl,hb⟩;have HB:Hid _:=hb;clear hb HN;go_wp2;go_ret;exact⟨rfl,HB.out⟩
theorem FL (t r:Nat) (w:World):Calls Tryz.prog 70 #[.int .i64 (t:Nat),.int .i64 (r:Nat)] w fun e w'=>e= .returned (.string (rkB t r))/\Below w.heap.size w w':=by
 have hs:=EU (Av t 2) (Av r 8) (by simp[Ay]);go_enter Tryz.func70,Tryz.ntmps70;go_wp2_with fail;refine(Dz t w).mono ?_;rintro _ w1 ⟨rfl,hb⟩;have HB:Hid _:=hb;have ht:tkB t=An (Av t 2):=rfl;rw[ht];clear hb ht;go_wp2_with fail;refine(DJ r 8 (by omega) w1).mono ?_;rintro _ w2 ⟨rfl,hb⟩;have HB2:Hid (Below w.heap.size w w2):=HB.out.trans (hb.mono HB.out.size);clear hb;go_wp2;go_ret;exact⟨rfl,HB2.out⟩
theorem FF (t c:Nat) (w:World):Calls Tryz.prog 45 #[.int .i64 (t:Nat),.int .i64 (c:Nat)] w fun e w'=>e= .returned (.string (ckB t c))/\Below w.heap.size w w':=by
 have hs:=EU (Av t 2) (Av c 1) (by simp[Ay]);have HN:Hid (∀w,Calls Tryz.prog 67 #[.int .i64 (t:Nat),.int .i64 2] w fun e w'=>e= .returned (.string (An (Av t 2)))/\Below w.heap.size w w'):=fun w=>DJ t 2 (by omega) w;have HN1:Hid (∀w,Calls Tryz.prog 67 #[.int .i64 (c:Nat),.int .i64 1] w fun e w'=>e= .returned (.string (An (Av c 1)))/\Below w.heap.size w w'):=fun w=>DJ c 1 (by omega) w;go_enter Tryz.func45,Tryz.ntmps45;go_wp2_with fail;refine(HN.out w).mono ?_;rintro _ w1 ⟨rfl,hb⟩;have HB:Hid _:=hb;clear hb;go_wp2_with fail;refine(HN1.out w1).mono ?_;rintro _ w2 ⟨rfl,hb⟩;have HB2:Hid (Below w.heap.size w w2):=HB.out.trans (hb.mono HB.out.size);clear hb;go_wp2;go_ret;exact⟨rfl,HB2.out⟩
theorem NU {r:Nat} (h:r<4000000000):r<256 ^ 8:=Nat.lt_of_lt_of_le h (by decide)
theorem M6 (t r:Nat) (hr:r<4000000000) (w:World):Calls Tryz.prog 85 #[.string (rkB t r)] w fun e w'=>e= .returned (.tuple #[.int .i64 (r:Nat),.nilIface])/\w'=w:=by
 have hsz:(rkB t r).size=10:=by unfold rkB;rw[Bh,List.length_append,Ay,Ay]
 have hex:(rkB t r).extract 2 10=An (Av r 8):=by
  apply Dc;rw[CM,rkB,A0,A0,List.take_of_length_le (by simp[Ay]),List.drop_left' (by rw[Ay])]
 go_enter Tryz.func85,Tryz.ntmps85;go_wp2_with fail;refine(Hr r 8 hr (by omega) (NU hr) w).mono ?_;rintro _ w9 ⟨rfl,h9⟩;obtain rfl:=h9.symm;clear h9;go_wp2;go_ret2;exact⟨rfl,rfl⟩
def Da (x y:Vl):Int:=Kb x.k x.n x.s y.k y.n y.s
structure At3 (b:Nat) (x:Vl) (w:World):Prop where
 c0:w.cell? ⟨b,0,none⟩=some (.int .i64 x.k)
 c1:w.cell? ⟨b,1,none⟩=some (.int .i64 x.n)
 c2:w.cell? ⟨b,2,none⟩=some (.string x.s)
theorem At3.lt {b:Nat} {x:Vl} {w:World} (h:At3 b x w):b<w.heap.size:=World.block_lt_of_cell? _ _ h.c0
theorem At3.below {b:Nat} {x:Vl} {w w':World} (h:At3 b x w) (hb:Below w.heap.size w w'):At3 b x w':=
 ⟨(hb.cell (p:=⟨b,0,none⟩) h.lt).trans h.c0,(hb.cell (p:=⟨b,1,none⟩) h.lt).trans h.c1,(hb.cell (p:=⟨b,2,none⟩) h.lt).trans h.c2⟩
theorem At3.new (x:Vl) (w:World):At3 w.heap.size x (w.alloc (.cells #[.int .i64 x.k,.int .i64 x.n,.string x.s] 24)):=⟨by simp,by simp,by simp⟩
end
end Go.Proofs.YtihnldkgeelehaaGreatDoor
