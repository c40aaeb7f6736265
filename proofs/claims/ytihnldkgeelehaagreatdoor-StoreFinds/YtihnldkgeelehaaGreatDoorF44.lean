/- StoreFinds: part 44. -/
import Derived.Test.YtihnldkgeelehaaGreatDoorF00
import Derived.WalkKit
import Derived.WalkSpells
import Derived.WalkLawsBesides
import Derived.Laws.StructEq
set_option maxRecDepth 100000
set_option maxHeartbeats 4000000
namespace Go.Proofs.YtihnldkgeelehaaGreatDoor
section
open Go.RowKit
theorem C4w {α β γ:Type} {o:Option TypeInfo} {f:TypeInfo->α} {g:TypeInfo->β} {k:TypeInfo->γ} {a:α} {b:β} {c:γ} (h:o.map (fun i=>(f i,g i,k i))=some (a,b,c)):∃i,o=some i/\f i=a/\g i=b/\k i=c:=by
 cases o with
 |none=>cases h
 |some i=>simp at h;exact⟨i,rfl,h.1,h.2.1,h.2.2⟩
def Cy (l:List UInt8):Nat:=l.findIdx (fun c=>c == 0)
theorem Tu (s:ByteArray) (k:Nat) (hk:k<s.size) (h0:((s[k].toNat:Int) == 0)=true) (hz:∀j (_:j<k) (h2:j<s.size),s[j]≠0):Cy s.data.toList=k:=by
 unfold Cy;rw[List.findIdx_eq (by simpa using hk)];refine⟨?_,fun j hj=> ?_⟩
 ·have:s[k].toNat=0:=by simpa using h0
  have e:s.data[k]=0:=UInt8.toNat_inj.1 this;simpa using e
 ·have:s.data[j]'(by have:s.data.size=s.size:=rfl;omega)≠0:=hz j hj (by omega)
  simpa using this
theorem Qe (s:ByteArray) (hz:∀j (h2:j<s.size),s[j]≠0):Cy s.data.toList=s.size:=by
 unfold Cy;have:s.size=s.data.toList.length:=by simp
 rw[this,List.findIdx_eq_length];intro x hx;obtain⟨j,hj,rfl⟩:=List.getElem_of_mem hx;have:s.data[j]'(by simpa using hj)≠0:=hz j (by simpa using hj);simpa using this
theorem TT (c:UInt8) (h:((c.toNat:Int) == 0)=false):c≠0:=by
 intro e;subst e;simp at h
theorem EW {k:IntKind} {a b:Int} (h:a=b):Ending.returned (.int k a)= .returned (.int k b):=by rw[h]
theorem C8 {a b:Bool} (h:a=b):Ending.returned (.bool a)= .returned (.bool b):=by rw[h]
set_option maxHeartbeats 400000
theorem E6 (s:ByteArray) (w:World) (hs:s.size<=maxLen):
  Calls Tryz.prog 135 #[.string s] w fun e w'=>e= .returned (.int .i64 (Cy s.data.toList))/\w'=w:=by
 unfold maxLen at hs;go_enter Tryz.func135,Tryz.ntmps135;go_wp2
 go_loop [6] (fun i=>∃k:Nat,k<=s.size/\i= .int .i64 k/\Hid (∀j (_:j<k) (h2:j<s.size),s[j]≠0)) (fun i=>s.size-(intOf i).toNat)
 case atStart=>exact⟨0,Nat.zero_le _,rfl,fun j h=>absurd h (Nat.not_lt_zero _)⟩
 case round=>
  obtain⟨k,hk,rfl,hz⟩:=hrel
  by_cases hlt:k<s.size
  ·go_wp2
   ·go_ret
    exact⟨EW (by rw[Tu s k hlt (by assumption) hz.out]),rfl⟩
   ·go_round
    case rel=>
     refine⟨k+1,by omega,by go_num,?_⟩;intro j hj h2
     by_cases e:j=k
     ·subst e;exact TT _ (by assumption)
     ·exact hz.out j (by omega) h2
    case measure=>simp[intOf];omega
  ·go_wp2
   go_ret;exact⟨EW (by rw[Qe s fun j h2=>hz.out j (by omega) h2]),rfl⟩
def Gm (s:ByteArray):Bool:=decide (s.size<=40) && decide (Cy s.data.toList=s.size)
theorem F9 (s:ByteArray) (w:World) (hs:s.size<=maxLen):
  Calls Tryz.prog 87 #[.string s] w fun e w'=>e= .returned (.bool (Gm s))/\w'=w:=by
 have hs':=hs;unfold maxLen at hs'
 by_cases h40:s.size<=40
 ·have hd:decide ((s.size:Int)<=40)=true:=by simp;omega
  go_enter Tryz.func87,Tryz.ntmps87
  go_wp2_with (go_at_call 135;refine(E6 _ _ hs).mono ?_;rintro e w' ⟨rfl,rfl⟩)
  go_ret;refine⟨C8 ?_,rfl⟩;unfold Gm;rw[Bool.eq_iff_iff];simp[h40];omega
 ·have hd:decide ((s.size:Int)<=40)=false:=by simp;omega
  go_enter Tryz.func87,Tryz.ntmps87
  go_wp2_with (go_at_call 135;refine(E6 _ _ hs).mono ?_;rintro e w' ⟨rfl,rfl⟩)
  go_ret;refine⟨C8 ?_,rfl⟩;unfold Gm;simp[h40]
theorem IF (x:Int) (w:World):Calls Tryz.prog 136 #[.int .i64 x] w fun e w'=>e= .returned (.bool false)/\w'=w:=by
 go_enter Tryz.func136,Tryz.ntmps136;go_wp2;go_ret;exact⟨by simp,rfl⟩
theorem GX (x:Int) (w:World):Calls Tryz.prog 137 #[.int .i64 x] w fun e w'=>e= .returned (.bool false)/\w'=w:=by
 go_enter Tryz.func137,Tryz.ntmps137;go_wp2;go_ret;exact⟨by simp,rfl⟩
theorem L9 (x:ByteArray) (w:World):Calls Tryz.prog 138 #[.string x] w fun e w'=>e= .returned (.bool false)/\w'=w:=by
 go_enter Tryz.func138,Tryz.ntmps138;go_wp2;go_ret;exact⟨by simp,rfl⟩
def Gj (a b:Int):Int:=if a<b then -1 else if b<a then 1 else 0
def QC (a b:ByteArray):Int:=if Op.bytesLess a.toList b.toList then -1 else if a.toList == b.toList then 0 else 1
theorem QS (x y:Int) (w:World):Calls Tryz.prog 88 #[.int .i64 x,.int .i64 y] w fun e w'=>e= .returned (.int .i64 (Gj x y))/\w'=w:=by
 unfold Gj
 by_cases h1:x<y
 ·go_enter Tryz.func88,Tryz.ntmps88
  go_wp2_with (go_at_call 136;refine(IF _ _).mono ?_;rintro e w' ⟨rfl,rfl⟩)
  go_ret;exact⟨by simp,rfl⟩
 ·by_cases h2:y<x
  ·go_enter Tryz.func88,Tryz.ntmps88
   go_wp2_with (go_at_call 136;refine(IF _ _).mono ?_;rintro e w' ⟨rfl,rfl⟩)
   go_ret;exact⟨by simp,rfl⟩
  ·go_enter Tryz.func88,Tryz.ntmps88
   go_wp2_with (go_at_call 136;refine(IF _ _).mono ?_;rintro e w' ⟨rfl,rfl⟩)
   go_ret;exact⟨by simp,rfl⟩
theorem QB (x y:Int) (w:World):Calls Tryz.prog 89 #[.int .i64 x,.int .i64 y] w fun e w'=>e= .returned (.int .i64 (Gj x y))/\w'=w:=by
 unfold Gj
 by_cases h1:x<y
 ·go_enter Tryz.func89,Tryz.ntmps89
  go_wp2_with (go_at_call 137;refine(GX _ _).mono ?_;rintro e w' ⟨rfl,rfl⟩)
  go_ret;exact⟨by simp,rfl⟩
 ·by_cases h2:y<x
  ·go_enter Tryz.func89,Tryz.ntmps89
   go_wp2_with (go_at_call 137;refine(GX _ _).mono ?_;rintro e w' ⟨rfl,rfl⟩)
   go_ret;exact⟨by simp,rfl⟩
  ·go_enter Tryz.func89,Tryz.ntmps89
   go_wp2_with (go_at_call 137;refine(GX _ _).mono ?_;rintro e w' ⟨rfl,rfl⟩)
   go_ret;exact⟨by simp,rfl⟩
theorem TO (x y:ByteArray) (w:World):Calls Tryz.prog 90 #[.string x,.string y] w fun e w'=>e= .returned (.int .i64 (QC x y))/\w'=w:=by
 unfold QC
 cases h1:Op.bytesLess x.toList y.toList
 ·cases h2:(x.toList == y.toList)
  ·go_enter Tryz.func90,Tryz.ntmps90
   go_wp2_with (go_at_call 138;refine(L9 _ _).mono ?_;rintro e w' ⟨rfl,rfl⟩)
   go_ret;exact⟨by simp,rfl⟩
  ·go_enter Tryz.func90,Tryz.ntmps90
   go_wp2_with (go_at_call 138;refine(L9 _ _).mono ?_;rintro e w' ⟨rfl,rfl⟩)
   go_ret;exact⟨by simp,rfl⟩
 ·go_enter Tryz.func90,Tryz.ntmps90
  go_wp2_with (go_at_call 138;refine(L9 _ _).mono ?_;rintro e w' ⟨rfl,rfl⟩)
  go_ret;exact⟨by simp,rfl⟩
def val (k n:Int) (s:ByteArray):Value:= .agg #[.int .i64 k,.int .i64 n,.string s]
def Cq (k n:Int) (s:ByteArray):Bool:=
 if k=0 then(n == 0) && s.toList.isEmpty else if k=1 then s.toList.isEmpty else if k=2 then(n == 0) && Gm s else false
theorem E5 (k n:Int) (s:ByteArray) (w:World) (hs:s.size<=maxLen):
  Calls Tryz.prog 36 #[.agg #[.int .i64 k,.int .i64 n,.string s]] w fun e w'=>e= .returned (.bool (Cq k n s))/\Below w.heap.size w w':=by
 by_cases k0:k=0
 ·subst k0
  cases hn:(n == 0)
  ·go_enter Tryz.func36,Tryz.ntmps36
   go_wp2;go_ret;exact⟨C8 (by simp[Cq,hn]),(Below.refl _ _).alloc (Nat.le_refl _) _⟩
  ·go_enter Tryz.func36,Tryz.ntmps36
   go_wp2;go_ret;exact⟨C8 (by simp[Cq,hn]),(Below.refl _ _).alloc (Nat.le_refl _) _⟩
 have b0:(k == 0)=false:=by simp[k0]
 by_cases k1:k=1
 ·subst k1
  go_enter Tryz.func36,Tryz.ntmps36;go_wp2;go_ret;exact⟨C8 (by simp[Cq]),(Below.refl _ _).alloc (Nat.le_refl _) _⟩
 have b1:(k == 1)=false:=by simp[k1]
 by_cases k2:k=2
 ·subst k2
  cases hn:(n == 0)
  ·go_enter Tryz.func36,Tryz.ntmps36
   go_wp2_with (go_at_call 87;refine(F9 _ _ hs).mono ?_;rintro e w' ⟨rfl,rfl⟩)
   go_ret;exact⟨C8 (by simp[Cq,hn]),(Below.refl _ _).alloc (Nat.le_refl _) _⟩
  ·go_enter Tryz.func36,Tryz.ntmps36
   go_wp2_with (go_at_call 87;refine(F9 _ _ hs).mono ?_;rintro e w' ⟨rfl,rfl⟩)
   go_ret;exact⟨C8 (by simp[Cq,hn]),(Below.refl _ _).alloc (Nat.le_refl _) _⟩
 have b2:(k == 2)=false:=by simp[k2]
 have HR:Hid (Cq k n s=false):=by show _=_;simp[Cq,k0,k1,k2]
 clear k0 k1 k2;go_enter Tryz.func36,Tryz.ntmps36;go_wp2;go_ret;exact⟨C8 HR.out.symm,(Below.refl _ _).alloc (Nat.le_refl _) _⟩
def Kb (k n:Int) (s:ByteArray) (k' n':Int) (s':ByteArray):Int:=
 if k=k' then if n=n' then QC s s' else Gj n n' else Gj k k'
theorem Lh (k n:Int) (s:ByteArray) (k' n':Int) (s':ByteArray) (w:World):
  Calls Tryz.prog 37 #[.agg #[.int .i64 k,.int .i64 n,.string s],.agg #[.int .i64 k',.int .i64 n',.string s']] w fun e w'=>e= .returned (.int .i64 (Kb k n s k' n' s'))/\Below w.heap.size w w':=by
 by_cases hk:k=k'
 ·subst hk
  by_cases hn:n=n'
  ·subst hn
   have HR:Hid (Kb k n s k n s'=QC s s'):=by show _=_;simp[Kb]
   go_enter Tryz.func37,Tryz.ntmps37
   go_wp2_with (go_at_call 90;refine(TO _ _ _).mono ?_;rintro e w' ⟨rfl,rfl⟩)
   go_ret;exact⟨EW HR.out.symm,((Below.refl _ _).alloc (Nat.le_refl _) _).alloc (by simp) _⟩
  ·have HR:Hid (Kb k n s k n' s'=Gj n n'):=by show _=_;simp[Kb,hn]
   have hb:(n != n')=true:=by simp[hn]
   clear hn;go_enter Tryz.func37,Tryz.ntmps37
   go_wp2_with (go_at_call 89;refine(QB _ _ _).mono ?_;rintro e w' ⟨rfl,rfl⟩)
   go_ret;exact⟨EW HR.out.symm,((Below.refl _ _).alloc (Nat.le_refl _) _).alloc (by simp) _⟩
 ·have HR:Hid (Kb k n s k' n' s'=Gj k k'):=by show _=_;simp[Kb,hk]
  have hb:(k != k')=true:=by simp[hk]
  clear hk;go_enter Tryz.func37,Tryz.ntmps37
  go_wp2_with (go_at_call 88;refine(QS _ _ _).mono ?_;rintro e w' ⟨rfl,rfl⟩)
  go_ret;exact⟨EW HR.out.symm,((Below.refl _ _).alloc (Nat.le_refl _) _).alloc (by simp) _⟩
def BS (l:List UInt8):Nat:=l.foldl (fun u b=>u * 256+b.toNat) 0
theorem GR (s:ByteArray) (w:World) (hs:s.size<9):
  Calls Tryz.prog 190 #[.string s] w fun e w'=>e= .returned (.tuple #[.agg #[.int .i64 0,.int .i64 0,.string ⟨#[]⟩],.int .i64 0])/\Below w.heap.size w w':=by
 have hs':(s.size:Int)<9:=by omega
 go_enter Tryz.func190,Tryz.ntmps190;go_wp2;exact bodyPost_ret (v:= .tuple #[.agg #[.int .i64 0,.int .i64 0,.string ⟨#[]⟩],.int .i64 0]) (by simp[results,Tryz.results190,go_sem]) rfl ⟨rfl,(Below.refl _ _).alloc (Nat.le_refl _) _⟩
theorem UF (a b:Nat) (ha:a * 256<18446744073709551616) (hb:b<256):
  bits .or .u64 (IntKind.u64.wrap ((a:Int) * 256)) (IntKind.u64.wrap (b:Int))=((a * 256+b:Nat):Int):=by
 have e1:IntKind.u64.wrap ((a:Int) * 256)=((a * 256:Nat):Int):=by rw[IntKind.wrap_u64];omega
 have e2:IntKind.u64.wrap (b:Int)=(b:Int):=by rw[IntKind.wrap_u64];omega
 rw[e1,e2]
 have h1:(BitVec.ofInt 64 ((a * 256:Nat):Int)).toNat=a * 256:=by
  rw[BitVec.ofInt_natCast,BitVec.toNat_ofNat];exact Nat.mod_eq_of_lt (by omega)
 have h2:(BitVec.ofInt 64 (b:Int)).toNat=b:=by
  rw[BitVec.ofInt_natCast,BitVec.toNat_ofNat];exact Nat.mod_eq_of_lt (by omega)
 show IntKind.u64.wrap ((BitVec.ofInt 64 ((a * 256:Nat):Int) ||| BitVec.ofInt 64 (b:Int)).toNat:Int)=_;rw[BitVec.toNat_or,h1,h2]
 have h3:a * 256 ||| b=a * 256+b:=by
  have:=Nat.two_pow_add_eq_or_of_lt (i:=8) (b:=b) (by omega) a;rw[Nat.mul_comm];exact this.symm
 rw[h3,IntKind.wrap_u64];omega
theorem FV (l:List UInt8) (k:Nat) (h:k<l.length):BS (l.take (k+1))=BS (l.take k) * 256+l[k].toNat:=by
 unfold BS;rw[List.take_succ_eq_append_getElem h,List.foldl_append];rfl
theorem UB (k m:Nat) (h:k<8) (hm:m<256 ^ k):m * 256<18446744073709551616:=by
 have:256 ^ k<=256 ^ 7:=Nat.pow_le_pow_right (by omega) (by omega);have e:(256:Nat) ^ 7=72057594037927936:=by decide
 omega
theorem SA (m:Nat) (h:m<256 ^ 8):wrap64 (IntKind.u64.wrap ((m:Int)-9223372036854775808))=(m:Int)-9223372036854775808:=by
 have e:(256:Nat) ^ 8=18446744073709551616:=by decide
 rw[IntKind.wrap_u64];unfold wrap64;omega
theorem Ik (s:ByteArray) (w:World) (hs:9<=s.size) (hm:s.size<=maxLen):
  Calls Tryz.prog 190 #[.string s] w fun e w'=>e= .returned (.tuple #[.agg #[.int .i64 1,.int .i64 ((BS ((s.data.toList.tail).take 8):Int)-9223372036854775808),.string ⟨#[]⟩],.int .i64 9])/\Below w.heap.size w w':=by
 unfold maxLen at hm;have hs':¬(s.size:Int)<9:=by omega
 go_enter Tryz.func190,Tryz.ntmps190;go_wp2
 go_loop [4,10] (fun u i=>∃k m:Nat,k<=8/\i= .int .i64 k/\u= .int .u64 m/\Hid (m=BS ((s.data.toList.tail).take k))/\m<256 ^ k) (fun _ i=>8-(intOf i).toNat)
 case atStart=>exact⟨0,0,by omega,rfl,rfl,rfl,by simp⟩
 case round=>
  obtain⟨k,m,hk,rfl,rfl,hn,hlt2⟩:=hrel
  by_cases hlt:k<8
  ·have hlt':(k:Int)<8:=by omega
   have hix:1+k<s.size:=by omega
   have hdl:k<s.data.toList.tail.length:=by simp;omega
   have hst:=FV s.data.toList.tail k hdl;have HO:Hid _:=UF m s[1+k].toNat (UB k m hlt hlt2) s[1+k].toNat_lt;have HC:Hid _:=s[1+k].toNat_lt
   have hgt:s.data.toList.tail[k]=s[1+k]:=by
    rw[List.getElem_tail,Array.getElem_toList];simp only[Nat.add_comm k 1];rfl
   rw[hgt]at hst;have HS:Hid _:=hst;have HL:Hid _:=hlt2;clear hst hgt hlt2;go_wp2
   go_round
   case rel=>
    refine⟨k+1,m * 256+s[1+k].toNat,by omega,by go_num,by rw[HO.out],?_,?_⟩
    ·show _=_
     rw[HS.out,<-hn.out]
    ·have h1:=HL.out
     have h2:=HC.out;rw[Nat.pow_succ];omega
   case measure=>simp[intOf];omega
  ·obtain rfl:k=8:=by omega
   have HB:Hid _:=SA m hlt2;clear hlt2;go_wp2;rw[<-hn.out,HB.out];exact bodyPost_ret (v:= .tuple #[.agg #[.int .i64 1,.int .i64 ((m:Int)-9223372036854775808),.string ⟨#[]⟩],.int .i64 9]) (by simp[results,Tryz.results190,go_sem]) rfl ⟨rfl,(Below.refl _ _).alloc (Nat.le_refl _) _⟩
theorem JA (s:ByteArray) (w:World):∃v W',(convert 9 199 (.string s)).run Tryz.prog w= .ok v W'/\
  (convert 199 9 v).run Tryz.prog W'= .ok (.string s) W'/\Below w.heap.size w W':=by
 refine⟨_,_,run_bytes_of_string w 9 199 5 s Tryz.underlying9 Tryz.underlying199 Tryz.underlying5,?_,?_⟩
 ·have:=run_convert_bytes_back (P:=Tryz.prog) (w.drew.alloc (.cells (bytesRow s (grownCap w s.size 0 5)) 5 ((bytesRow s (grownCap w s.size 0 5)).size,(bytesRow s (grownCap w s.size 0 5)).size+1))) 199 9 5 ⟨w.heap.size,0,none⟩ (grownCap w s.size 0 5) s.data.toList Tryz.underlying199 Tryz.underlying5 Tryz.underlying9 (fun j hj=>by
   rw[Go.WideShapes.add_plain];have hj':j<s.data.size:=by simpa using hj
   have h1:=World.cell?_alloc_mark w.drew (bytesRow s (grownCap w s.size 0 5)) 5 ((bytesRow s (grownCap w s.size 0 5)).size,(bytesRow s (grownCap w s.size 0 5)).size+1) j;have h2:=bytesRow_at s (grownCap w s.size 0 5) j hj';rw[Nat.zero_add];rw[h2]at h1;rw[Array.getElem_toList];exact h1)
  have e1:s.data.toList.length=s.size:=by simp
  have e2:(⟨s.data.toList.toArray⟩:ByteArray)=s:=by simp
  rw[e1,e2]at this;exact this
 ·exact((Below.refl _ w).drew).alloc (Nat.le_refl _) _
theorem Hl (s:ByteArray) (n:Nat) (hn:Cy s.data.toList=n) (w:World) (hs:s.size<=maxLen):
  Calls Tryz.prog 135 #[.string s] w fun e w'=>e= .returned (.int .i64 n)/\w'=w:=by
 rw[<-hn];exact E6 s w hs
theorem Iw (l:List UInt8):Cy l<=l.length:=List.findIdx_le_length
def E7 (t:ByteArray):Value:=if Cy t.data.toList=t.size then .tuple #[.agg #[.int .i64 0,.int .i64 0,.string ⟨#[]⟩],.int .i64 0]
 else .tuple #[.agg #[.int .i64 2,.int .i64 0,.string (t.extract 0 (Cy t.data.toList))],.int .i64 (1+(Cy t.data.toList:Int)+1)]
set_option maxHeartbeats 1000000
theorem L3 (s:ByteArray) (w:World) (hs:0<s.size) (hm:s.size<=maxLen):
  Calls Tryz.prog 191 #[.string s] w fun e w'=>e= .returned (E7 (s.extract 1 (min s.size 42)))/\Below w.heap.size w w':=by
 unfold maxLen at hm
 by_cases h42:s.size<=42
 ·have hmin:min s.size 42=s.size:=by omega
  rw[hmin];clear hmin;have h42':(s.size:Int)<=42:=by omega
  generalize htx:E7 (s.extract 1 s.size)=tx;have HT:Hid _:=htx;clear htx;go_enter Tryz.func191,Tryz.ntmps191;go_wp2_with fail;have hts:(s.extract 1 s.size).size<=41:=by simp;omega
  generalize s.extract 1 s.size=t at *;obtain⟨n,hn⟩:∃n,Cy t.data.toList=n:=⟨_,rfl⟩;have hle:=Iw t.data.toList;have e1:t.data.toList.length=t.size:=by simp
  rw[e1,hn]at hle;clear e1;refine(Hl t n hn _ (by unfold maxLen;omega)).mono ?_;rintro e w1 ⟨rfl,rfl⟩
  by_cases hz:n=t.size
  ·have hz':((n:Int) == (t.size:Int))=true:=by simp;omega
   have HR:Hid (tx= .tuple #[.agg #[.int .i64 0,.int .i64 0,.string ⟨#[]⟩],.int .i64 0]):=by
    show _=_;rw[<-HT.out,E7,hn,if_pos hz]
   have HN:Hid _:=hn;clear hn HT hz;go_wp2;rw[HR.out];exact bodyPost_ret (v:= .tuple #[.agg #[.int .i64 0,.int .i64 0,.string ⟨#[]⟩],.int .i64 0]) (by simp[results,Tryz.results191,go_sem]) rfl ⟨rfl,(Below.refl _ _).alloc (Nat.le_refl _) _⟩
  ·have hz':((n:Int) == (t.size:Int))=false:=by simp;omega
   have HR:Hid (tx= .tuple #[.agg #[.int .i64 2,.int .i64 0,.string (t.extract 0 n)],.int .i64 (1+(n:Int)+1)]):=by
    show _=_;rw[<-HT.out,E7,hn,if_neg hz]
   have HN:Hid _:=hn;have hlt:n<t.size:=by omega
   clear hn HT hz;obtain⟨vb,W',c1,c2,c3⟩:=JA (t.extract 0 n) (w.alloc (.cells #[.int .i64 0,.int .i64 0,.string ⟨#[]⟩] 24));have q0:=c3.cell (p:=⟨w.heap.size,0,none⟩) (by simp);have q1:=c3.cell (p:=⟨w.heap.size,1,none⟩) (by simp);have q2:=c3.cell (p:=⟨w.heap.size,2,none⟩) (by simp);have f0:=c3.frozen (p:=⟨w.heap.size,0,none⟩) (by simp);have f1:=c3.frozen (p:=⟨w.heap.size,1,none⟩) (by simp);have f2:=c3.frozen (p:=⟨w.heap.size,2,none⟩) (by simp);simp at q0 q1 q2 f0 f1 f2;have hbw:Below w.heap.size w W':=((Below.refl w.heap.size w).alloc (Nat.le_refl _) _).trans (c3.mono (by simp));clear c3;go_wp2;rw[HR.out];refine bodyPost_ret (v:= .tuple #[.agg #[.int .i64 2,.int .i64 0,.string (t.extract 0 n)],.int .i64 (1+(n:Int)+1)]) ?_ rfl ⟨rfl,?_⟩
   ·simp[results,Tryz.results191,go_sem,q0,q1,q2]
   ·exact((hbw.setCell (Nat.le_refl _) _).setCell (Nat.le_refl _) _).setCell (Nat.le_refl _) _
 ·have hmin:min s.size 42=42:=by omega
  rw[hmin];clear hmin;have h42':¬(s.size:Int)<=42:=by omega
  generalize htx:E7 (s.extract 1 42)=tx;have HT:Hid _:=htx;clear htx;go_enter Tryz.func191,Tryz.ntmps191;go_wp2_with fail;have hts:(s.extract 1 42).size<=41:=by simp;omega
  generalize s.extract 1 42=t at *;obtain⟨n,hn⟩:∃n,Cy t.data.toList=n:=⟨_,rfl⟩;have hle:=Iw t.data.toList;have e1:t.data.toList.length=t.size:=by simp
  rw[e1,hn]at hle;clear e1;refine(Hl t n hn _ (by unfold maxLen;omega)).mono ?_;rintro e w1 ⟨rfl,rfl⟩
  by_cases hz:n=t.size
  ·have hz':((n:Int) == (t.size:Int))=true:=by simp;omega
   have HR:Hid (tx= .tuple #[.agg #[.int .i64 0,.int .i64 0,.string ⟨#[]⟩],.int .i64 0]):=by
    show _=_;rw[<-HT.out,E7,hn,if_pos hz]
   have HN:Hid _:=hn;clear hn HT hz;go_wp2;rw[HR.out];exact bodyPost_ret (v:= .tuple #[.agg #[.int .i64 0,.int .i64 0,.string ⟨#[]⟩],.int .i64 0]) (by simp[results,Tryz.results191,go_sem]) rfl ⟨rfl,(Below.refl _ _).alloc (Nat.le_refl _) _⟩
  ·have hz':((n:Int) == (t.size:Int))=false:=by simp;omega
   have HR:Hid (tx= .tuple #[.agg #[.int .i64 2,.int .i64 0,.string (t.extract 0 n)],.int .i64 (1+(n:Int)+1)]):=by
    show _=_;rw[<-HT.out,E7,hn,if_neg hz]
   have HN:Hid _:=hn;have hlt:n<t.size:=by omega
   clear hn HT hz;obtain⟨vb,W',c1,c2,c3⟩:=JA (t.extract 0 n) (w.alloc (.cells #[.int .i64 0,.int .i64 0,.string ⟨#[]⟩] 24));have q0:=c3.cell (p:=⟨w.heap.size,0,none⟩) (by simp);have q1:=c3.cell (p:=⟨w.heap.size,1,none⟩) (by simp);have q2:=c3.cell (p:=⟨w.heap.size,2,none⟩) (by simp);have f0:=c3.frozen (p:=⟨w.heap.size,0,none⟩) (by simp);have f1:=c3.frozen (p:=⟨w.heap.size,1,none⟩) (by simp);have f2:=c3.frozen (p:=⟨w.heap.size,2,none⟩) (by simp);simp at q0 q1 q2 f0 f1 f2;have hbw:Below w.heap.size w W':=((Below.refl w.heap.size w).alloc (Nat.le_refl _) _).trans (c3.mono (by simp));clear c3;go_wp2;rw[HR.out];refine bodyPost_ret (v:= .tuple #[.agg #[.int .i64 2,.int .i64 0,.string (t.extract 0 n)],.int .i64 (1+(n:Int)+1)]) ?_ rfl ⟨rfl,?_⟩
   ·simp[results,Tryz.results191,go_sem,q0,q1,q2]
   ·exact((hbw.setCell (Nat.le_refl _) _).setCell (Nat.le_refl _) _).setCell (Nat.le_refl _) _
structure Vl where
 k:Int
 n:Int
 s:ByteArray
def Vo (w:World) (b off:Nat) (xs:List Vl):Prop:=∀i (h:i<xs.length),
 w.cell? ⟨b,off+i * 3,none⟩=some (.int .i64 xs[i].k)/\w.cell? ⟨b,off+i * 3+1,none⟩=some (.int .i64 xs[i].n)/\w.cell? ⟨b,off+i * 3+2,none⟩=some (.string xs[i].s)/\xs[i].s.size<=maxLen
def BY (w:World) (a:Option Addr) (len:Nat) (xs:List Vl):Prop:=
 len=xs.length/\len<=maxLen/\(xs=[]\/∃b off,a=some ⟨b,off,none⟩/\b<w.heap.size/\Vo w b off xs)
theorem BY.below {w w':World} {a:Option Addr} {len:Nat} {xs:List Vl} {B:Nat} (h:BY w a len xs) (hb:Below B w w') (hB:w.heap.size<=B):BY w' a len xs:=by
 obtain⟨h1,h2,h3⟩:=h;refine⟨h1,h2,?_⟩;rcases h3 with h3|⟨b,off,e,hlt,hr⟩
 ·exact .inl h3
 ·have hs:=hb.size
  refine .inr ⟨b,off,e,by omega,fun i hi=> ?_⟩;obtain⟨g1,g2,g3,g4⟩:=hr i hi;have hc:∀o,w'.cell? ⟨b,o,none⟩=w.cell? ⟨b,o,none⟩:=fun o=>hb.cell (p:=⟨b,o,none⟩) (by show b<B;omega);exact⟨by rw[hc];exact g1,by rw[hc];exact g2,by rw[hc];exact g3,g4⟩
theorem VM {W w1:World} (hb:Below W.heap.size W w1):∀b o,b<W.heap.size->w1.cell? ⟨b,o,none⟩=W.cell? ⟨b,o,none⟩:=
 fun b o h=>hb.cell (p:=⟨b,o,none⟩) h
theorem Pt (k n:Int) (s:ByteArray) (c:Bool) (hc:Cq k n s=c) (w:World) (hs:s.size<=maxLen):
  Calls Tryz.prog 36 #[.agg #[.int .i64 k,.int .i64 n,.string s]] w fun e w'=>e= .returned (.bool c)/\Below w.heap.size w w':=by
 rw[<-hc];exact E5 k n s w hs
end
end Go.Proofs.YtihnldkgeelehaaGreatDoor
