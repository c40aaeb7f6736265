/- MatchFinds: part 17. -/
import Derived.Test.YtgfldnaahojnlaaGreatDoorF16
import Derived.Shelf.LaysM
import Derived.Shelf.Strconv.Clone
set_option maxRecDepth 100000
set_option maxHeartbeats 4000000
namespace Go.Proofs.YtgfldnaahojnlaaGreatDoor
section
open Go.RowKit
def GH (x:Nat):Bool:=decide (65<=x) && decide (x<=90) || decide (97<=x) && decide (x<=122) || decide (48<=x) && decide (x<=57) || decide (127<x)
def isL (c:UInt8):Bool:=GH c.toNat
def EL (l:List UInt8):Nat:=l.findIdx (fun c=> !isL c)
theorem Sn (s:ByteArray) (hz:∀j (h2:j<s.size),GH s[j].toNat=true):EL s.data.toList=s.size:=by
 unfold EL;have:s.size=s.data.toList.length:=by simp
 rw[this,List.findIdx_eq_length];intro x hx;obtain⟨j,hj,rfl⟩:=List.getElem_of_mem hx;have:GH (s.data[j]'(by simpa using hj)).toNat=true:=hz j (by simpa using hj);simpa [isL]using this
def CA (s e:ByteArray):Bool:=decide (e.size<=s.size) && ((s.extract (s.size-e.size) s.size).toList == e.toList)
def EK (x:Nat):Nat:=if 65<=x/\x<=90 then x+32 else x
theorem Wv (c:UInt8):EK c.toNat<256:=by
 have:=c.toNat_lt;unfold EK;split<;>omega
def low (c:UInt8):UInt8:=UInt8.ofNat (EK c.toNat)
theorem Q7 (c:UInt8):(low c).toNat=EK c.toNat:=by
 have:=Wv c;simp[low];omega
def Aw (l:List UInt8):List UInt8:=l.map low
def A6 (s:ByteArray):ByteArray:=⟨(Aw s.data.toList).toArray⟩
structure Jl (B n k:Nat) (l m:Nat->Nat) (w:World):Prop where
 cell:∀j,j<n->w.cell? ⟨B,j,none⟩=some (.int .u8 ((if j<k then l j else m j:Nat):Int))
 free:∀j,j<n->w.frozen? ⟨B,j,none⟩=false
theorem Jl.set {B n k:Nat} {l m:Nat->Nat} {w:World} (h:Jl B n k l m w) (hk:k<n) (x:Int) (hx:x=(l k:Int)):Jl B n (k+1) l m (w.setCell ⟨B,k,none⟩ (.int .u8 x)):=by
 subst hx;refine⟨fun j hj=> ?_,fun j hj=>by rw[World.frozen?_setCell];exact h.free j hj⟩
 by_cases e:j=k
 ·subst e
  rw[World.cell?_setCell_same _ _ _ (h.cell j hj)];simp
 ·rw[World.cell?_setCell_other _ _ _ _ (fun q=>e (by cases q;rfl)),h.cell j hj]
  have:(j<k+1)=(j<k):=by simp;omega
  simp only[this]
theorem Jl.keep {B n k:Nat} {l m:Nat->Nat} {w:World} (h:Jl B n k l m w) (hk:k<n) (hx:l k=m k):Jl B n (k+1) l m w:=by
 refine⟨fun j hj=> ?_,h.free⟩;rw[h.cell j hj]
 by_cases e:j=k
 ·subst e;simp[hx]
 ·have:(j<k+1)=(j<k):=by simp;omega
  simp only[this]
def bt (s:ByteArray) (j:Nat):Nat:=if h:j<s.size then s[j].toNat else 0
theorem Vv (s:ByteArray) (j:Nat) (h:j<s.size):bt s j=s[j].toNat:=by simp[bt,h]
theorem Xs (s:ByteArray) (j:Nat):bt s j<256:=by
 unfold bt;split
 ·exact UInt8.toNat_lt _
 ·omega
theorem J9 (s:ByteArray) (j:Nat) (hj:j<(Aw s.data.toList).length):((Aw s.data.toList)[j]).toNat=EK (bt s j):=by
 have hj':j<s.data.size:=by simpa [Aw]using hj
 rw[Vv s j hj'];simp[Aw,Q7];rfl
theorem D8 (s:ByteArray):(Aw s.data.toList).length=s.size:=by simp[Aw]
theorem Dk (s:ByteArray):(A6 s).size=s.size:=by
 show(Aw s.data.toList).toArray.size=_;simp[D8]
def B6:List (ByteArray×ByteArray):=[(⟨#[115,115,101,115]⟩,⟨#[115,115]⟩),(⟨#[105,101,115]⟩,⟨#[121]⟩),(⟨#[115,115]⟩,⟨#[115,115]⟩),(⟨#[105,110,103]⟩,⟨#[]⟩),(⟨#[101,100]⟩,⟨#[]⟩),(⟨#[101,115]⟩,⟨#[101]⟩),(⟨#[115]⟩,⟨#[]⟩)]
def AW:List (ByteArray×ByteArray)->ByteArray->ByteArray
 | [],s=>s
 |(e,r)::t,s=>if CA s e then(if e.size+3<=s.size then s.extract 0 (s.size-e.size)++r else s)else AW t s
def EP (s:ByteArray):ByteArray:=AW B6 s
theorem Bm {e r s:ByteArray} {t:List (ByteArray×ByteArray)} (h:CA s e=false):AW ((e,r)::t) s=AW t s:=by simp[AW,h]
theorem AV {e r s:ByteArray} {t:List (ByteArray×ByteArray)} (h:CA s e=true) (h3:¬e.size+3<=s.size):AW ((e,r)::t) s=s:=by simp only[AW,h,if_true,if_neg h3]
theorem BL {e r s:ByteArray} {t:List (ByteArray×ByteArray)} (h:CA s e=true) (h3:e.size+3<=s.size):AW ((e,r)::t) s=s.extract 0 (s.size-e.size)++r:=by simp only[AW,h,if_true,if_pos h3]
theorem Df {s e:ByteArray} (h:s.size<e.size):CA s e=false:=by simp[CA];omega
theorem FD {s e:ByteArray} {l:List UInt8} (h:e.size<=s.size) (hl:e.toList=l):CA s e=((s.extract (s.size-e.size) s.size).toList == l):=by simp[CA,h,hl]
def Eb:List UInt8->List UInt8->List (List UInt8)
 |cur,[]=>if cur.isEmpty then []else [cur]
 |cur,c::l=>if isL c then Eb (cur++[c]) l else(if cur.isEmpty then []else [cur])++Eb [] l
def BC (r:List UInt8):ByteArray:=EP ⟨((Aw r).take 12).toArray⟩
def Ad (l:List UInt8):List ByteArray:=(Eb [] l).map BC
theorem KV (c:UInt8) (l:List UInt8) (h:isL c=true):EL (c::l)=EL l+1:=by simp[EL,List.findIdx_cons,h]
theorem M2 (c:UInt8) (l:List UInt8) (h:isL c=false):EL (c::l)=0:=by simp[EL,List.findIdx_cons,h]
theorem Rv (l:List UInt8):∀cur,Eb cur l=(if(cur++l.take (EL l)).isEmpty then []else [cur++l.take (EL l)])++Eb [] (l.drop (EL l+1)):=by
 induction l with
 |nil=>intro cur;simp[Eb]
 |cons c l ih=>
  intro cur
  cases h:isL c
  ·rw[M2 c l h]
   simp[Eb,h]
  ·rw[KV c l h,Eb,if_pos h,ih]
   simp
theorem Jz (l:List UInt8):Ad l=(if EL l=0 then []else [BC (l.take (EL l))])++Ad (l.drop (EL l+1)):=by
 unfold Ad;rw[Rv l []]
 by_cases h:EL l=0
 ·simp[h]
 ·have hl:l.take (EL l)≠[]:=by
   intro e;rcases List.take_eq_nil_iff.1 e with h'|h'
   ·exact h h'
   ·subst h';exact h rfl
  simp[h,hl]
theorem Wy (l:List UInt8):EL l<=l.length:=List.findIdx_le_length
theorem Vd {α:Type} (l:List α) (n:Nat):l.drop (min n l.length)=l.drop n:=by
 by_cases h:n<=l.length
 ·rw[Nat.min_eq_left h]
 ·rw[Nat.min_eq_right (by omega),List.drop_length,List.drop_eq_nil_of_le (by omega)]
theorem Dy {a b:ByteArray} (h:a.data.toList=b.data.toList):a=b:=by
 cases a;cases b;simp at h;simp[h]
theorem Ch (s:ByteArray) (a b:Nat):(s.extract a b).data.toList=(s.data.toList.take b).drop a:=by
 rw[ByteArray.data_extract,Array.toList_extract,List.extract_eq_take_drop,List.drop_take]
theorem AF (s:ByteArray):s.data.toList.length=s.size:=by simp
theorem Rh (t:ByteArray) (n:Nat):EP (A6 (t.extract 0 (min n 12)))=BC (t.data.toList.take n):=by
 unfold BC A6;rw[Ch];simp only[List.drop_zero,Aw,<-List.map_take,List.take_take,Nat.min_comm]
theorem J0 (r:ByteArray) (h:r.size<=12):EP (A6 r)=BC r.data.toList:=by
 unfold BC A6;rw[List.take_of_length_le (by simp[Aw];exact h)]
theorem KM (r:ByteArray):EP ((A6 r).extract 0 12)=BC r.data.toList:=by
 unfold BC;congr 1;apply Dy;rw[Ch];simp[A6]
theorem Nf (t:List (ByteArray×ByteArray)) (s:ByteArray) (h:∀x∈t,x.2.size<=x.1.size):(AW t s).size<=s.size:=by
 induction t with
 |nil=>simp[AW]
 |cons x t ih=>
  obtain⟨e,r⟩:=x;have hx:=h (e,r) (by simp);simp only at hx;unfold AW;split
  ·split
   ·simp only[ByteArray.size_append,ByteArray.size_extract];omega
   ·exact Nat.le_refl _
  ·exact ih fun y hy=>h y (by simp[hy])
theorem VS (s:ByteArray):(EP s).size<=s.size:=Nf _ _ (by decide)
theorem Ri (r:List UInt8):(BC r).size<=12:=by
 refine Nat.le_trans (VS _) ?_;show((Aw r).take 12).toArray.size<=12;simp;omega
theorem Nn (l:List UInt8):∀cur,(Eb cur l).length<=l.length+1:=by
 induction l with
 |nil=>intro cur;unfold Eb;split<;>simp
 |cons c l ih=>
  intro cur;unfold Eb;split
  ·have:=ih (cur++[c]);simp;omega
  ·have:=ih []
   simp;split<;>simp<;>omega
theorem CK (l:List UInt8):(Ad l).length<=l.length+1:=by rw[Ad,List.length_map];exact Nn l []
def sc (l:List ByteArray):List Value:=l.map Value.string
theorem Ru (a b:List ByteArray):sc (a++b)=sc a++sc b:=by simp[sc]
def It (w:World) (a:Option Addr) (len:Nat) (xs:List ByteArray):Prop:=
 len=xs.length/\xs.length<=1000000/\(xs=[]\/∃b off,a=some ⟨b,off,none⟩/\b<w.heap.size/\∀i (h:i<xs.length),w.cell? ⟨b,off+i,none⟩=some (.string xs[i]))
theorem OU {w:World} {B:Nat} {v:Value} {xs:List ByteArray} (h:w.ownsRow B 9 1 v xs.length (sc xs)) (hl:xs.length<=1000000):∃a cap,v= .slice a xs.length cap/\It w a xs.length xs/\(a=none->cap=0):=by
 rcases h.2 with⟨rfl,h0⟩|⟨g,cap,cur,rfl,_,hg,_⟩
 ·have:xs=[]:=List.length_eq_zero_iff.1 h0
  subst this;exact⟨none,0,rfl,⟨rfl,hl,.inl rfl⟩,fun _=>rfl⟩
 ·refine⟨some ⟨g,0,none⟩,cap,rfl,⟨rfl,hl,.inr ⟨g,0,rfl,(Array.getElem?_eq_some_iff.1 hg).1,fun i hi=> ?_⟩⟩,fun e=>by simp at e⟩
  have k0:=h.cells (g:=g) rfl i (.string xs[i]) (by simp[sc]);rw[Go.WideShapes.add_plain]at k0;exact k0
theorem It.below {w w':World} {a:Option Addr} {len:Nat} {xs:List ByteArray} (h:It w a len xs) (hb:Below w.heap.size w w'):It w' a len xs:=by
 obtain⟨h1,h2,h3⟩:=h;refine⟨h1,h2,?_⟩;rcases h3 with h3|⟨b,off,e,hlt,hc⟩
 ·exact .inl h3
 ·exact .inr ⟨b,off,e,Nat.lt_of_lt_of_le hlt hb.size,fun i hi=>by rw[hb.cell (p:=⟨b,_,none⟩) hlt];exact hc i hi⟩
theorem Hb {w:World} {B:Nat} {t:TypeId} {z:Nat} {v:Value} {n n':Nat} {xs xs':List Value} (h:w.ownsRow B t z v n xs) (hn:n=n') (hx:xs=xs'):w.ownsRow B t z v n' xs':=by rw[<-hn,<-hx];exact h
theorem Fm {w w':World} {B:Nat} {t:TypeId} {z:Nat} {v:Value} {n:Nat} {xs:List Value} (h:w.ownsRow B t z v n xs) (hb:Below w.heap.size w w'):w'.ownsRow B t z v n xs:=by
 refine⟨h.1,?_⟩;rcases h.2 with h2|⟨g,cap,cur,h1,h2,h3,h4⟩
 ·exact .inl h2
 ·exact .inr ⟨g,cap,cur,h1,h2,by rw[hb.block g (Array.getElem?_eq_some_iff.1 h3).1];exact h3,h4⟩
def J6:Value->Nat
 | .string t=>t.size
 |_=>0
theorem UN (x:Nat):GH x=(decide (97<=x) && decide (x<=122) || decide (65<=x) && decide (x<=90) || decide (48<=x) && decide (x<=57) || decide (128<=x)):=by
 rw[Bool.eq_iff_iff];simp[GH];omega
theorem CZ (s:ByteArray) (k:Nat) (h:k<s.size):s.data.toList.drop k=s[k]::s.data.toList.drop (k+1):=by
 rw[List.drop_eq_getElem_cons (by simpa using h)];simp;rfl
set_option maxHeartbeats 2000000
theorem Kh (x:Nat) (w:World):Calls Tryz.prog 83 #[.int .u8 (x:Int)] w fun e w'=>e= .returned (.bool (GH x))/\w'=w:=by
 obtain⟨a1,e1⟩:∃b,decide ((65:Int)<=(x:Int))=b:=⟨_,rfl⟩;obtain⟨a2,e2⟩:∃b,decide ((x:Int)<=90)=b:=⟨_,rfl⟩;obtain⟨a3,e3⟩:∃b,decide ((97:Int)<=(x:Int))=b:=⟨_,rfl⟩;obtain⟨a4,e4⟩:∃b,decide ((x:Int)<=122)=b:=⟨_,rfl⟩;obtain⟨a5,e5⟩:∃b,decide ((48:Int)<=(x:Int))=b:=⟨_,rfl⟩;obtain⟨a6,e6⟩:∃b,decide ((x:Int)<=57)=b:=⟨_,rfl⟩
 have HR:Hid (GH x=(a1 && a2 || a3 && a4 || a5 && a6 || decide ((127:Int)<(x:Int)))):=by
  show _=_;rw[<-e1,<-e2,<-e3,<-e4,<-e5,<-e6,Bool.eq_iff_iff];simp[GH];omega
 cases a1<;>cases a2<;>cases a3<;>cases a4<;>cases a5<;>cases a6<;>first
  |(exfalso;simp only[decide_eq_true_eq,decide_eq_false_iff_not]at e1 e2 e3 e4 e5 e6;clear HR;omega)
  |(go_enter Tryz.func83,Tryz.ntmps83
    go_wp2;go_ret;exact⟨Fj (by rw[HR.out];simp),rfl⟩)
theorem Wz (s:ByteArray) (k:Nat) (hk:k<s.size) (h0:GH s[k].toNat=false) (hz:∀j (_:j<k) (h2:j<s.size),GH s[j].toNat=true):EL s.data.toList=k:=by
 unfold EL;rw[List.findIdx_eq (by simpa using hk)];refine⟨?_,fun j hj=> ?_⟩
 ·have:GH (s.data[k]'hk).toNat=false:=h0
  simpa [isL]using this
 ·have:GH (s.data[j]'(by have:s.data.size=s.size:=rfl;omega)).toNat=true:=hz j hj (by omega)
  simpa [isL]using this
set_option maxHeartbeats 400000
theorem NW (s:ByteArray) (w:World) (hs:s.size<=1000000):
  Calls Tryz.prog 49 #[.string s] w fun e w'=>e= .returned (.int .i64 (EL s.data.toList))/\w'=w:=by
 go_enter Tryz.func49,Tryz.ntmps49;go_wp2
 go_loop [6] (fun i=>∃k:Nat,k<=s.size/\i= .int .i64 k/\Hid (∀j (_:j<k) (h2:j<s.size),GH s[j].toNat=true)) (fun i=>s.size-(intOf i).toNat)
 case atStart=>exact⟨0,Nat.zero_le _,rfl,fun j h=>absurd h (Nat.not_lt_zero _)⟩
 case round=>
  obtain⟨k,hk,rfl,hz⟩:=hrel
  by_cases hlt:k<s.size
  ·cases hb:GH s[k].toNat
   ·go_wp2_with (go_at_call 83;refine(Kh _ _).mono ?_;rintro e w' ⟨rfl,rfl⟩)
    go_ret;exact⟨Hx (by rw[Wz s k hlt hb hz.out]),rfl⟩
   ·go_wp2_with (go_at_call 83;refine(Kh _ _).mono ?_;rintro e w' ⟨rfl,rfl⟩)
    go_round
    case rel=>
     refine⟨k+1,by omega,by go_num,?_⟩;intro j hj h2
     by_cases e:j=k
     ·subst e;exact hb
     ·exact hz.out j (by omega) h2
    case measure=>simp[intOf];omega
  ·go_wp2
   go_ret;exact⟨Hx (by rw[Sn s fun j h2=>hz.out j (by omega) h2]),rfl⟩
theorem TB (s e:ByteArray) (w:World) (hs:s.size<=1000000) (he:e.size<=1000000):
  Calls Tryz.prog 119 #[.string s,.string e] w fun x w'=>x= .returned (.bool (CA s e))/\w'=w:=by
 by_cases h:e.size<=s.size
 ·have hd:decide ((e.size:Int)<=(s.size:Int))=true:=by simpa using h
  have HR:Hid (CA s e=((s.extract (s.size-e.size) s.size).toList == e.toList)):=by show _=_;simp[CA,h]
  go_enter Tryz.func119,Tryz.ntmps119;go_wp2;go_ret;refine⟨Fj ?_,rfl⟩;rw[HR.out]
 ·have hd:decide ((e.size:Int)<=(s.size:Int))=false:=by simp;omega
  have HR:Hid (CA s e=false):=by show _=_;simp[CA,h]
  go_enter Tryz.func119,Tryz.ntmps119;go_wp2;go_ret;exact⟨Fj (by rw[HR.out]),rfl⟩
theorem AN (s e:ByteArray) (w:World) (hs:s.size<=1000000) (he:e.size<=1000000):
  Calls Tryz.prog 84 #[.string s,.string e] w fun x w'=>x= .returned (.bool (CA s e))/\w'=w:=by
 go_enter Tryz.func84,Tryz.ntmps84
 go_wp2_with (go_at_call 119;refine(TB _ _ _ hs he).mono ?_;rintro e w' ⟨rfl,rfl⟩)
 go_ret;exact⟨rfl,rfl⟩
theorem Jl.text {B n:Nat} {l m:Nat->Nat} {w:World} {cap:Nat} (h:Jl B n n l m w) (t:List UInt8) (ht:t.length=n) (hl:∀j (hj:j<t.length),(t[j]).toNat=l j):
  (convert 166 9 (.slice (some ⟨B,0,none⟩) n cap)).run Tryz.prog w= .ok (.string ⟨t.toArray⟩) w:=by
 subst ht
 exact run_convert_bytes_back (P:=Tryz.prog) w 166 9 5 ⟨B,0,none⟩ cap t Tryz.underlying166 Tryz.underlying5 Tryz.underlying9 (fun j hj=>by
  rw[Addr.add_lit,Nat.zero_add,h.cell j hj,if_pos hj,hl j hj])
theorem SU (s:ByteArray) (w:World):∃cap w',(convert 9 166 (.string s)).run Tryz.prog w= .ok (.slice (some ⟨w.heap.size,0,none⟩) s.size cap) w'/\Below w.heap.size w w'/\w'.heap.size=w.heap.size+1/\
  (∀j (hj:j<s.data.toList.length),w'.cell? ⟨w.heap.size,j,none⟩=some (.int .u8 (s.data.toList[j].toNat:Int)))/\(∀j,j<s.size->w'.frozen? ⟨w.heap.size,j,none⟩=false):=by
 have h:=run_bytes_of_string (P:=Tryz.prog) w 9 166 5 s Tryz.underlying9 Tryz.underlying166 Tryz.underlying5;refine⟨_,_,h,(Below.refl _ w).drew.alloc (Nat.le_refl _) _,?_,?_,?_⟩
 ·simp
 ·intro j hj
  have hn:(w.drew.alloc (.cells (bytesRow s (grownCap w s.size 0 5)) 5 ((bytesRow s (grownCap w s.size 0 5)).size,(bytesRow s (grownCap w s.size 0 5)).size+1))).heap[w.heap.size]? =_:=heap_alloc_new w.drew _;have hj':j<s.data.size:=by simpa using hj
  simp only[World.cell?,hn];have hj2:j<s.size:=hj';simp[bytesRow,Array.getElem?_append,hj2]
 ·intro j hj
  have hn:(w.drew.alloc (.cells (bytesRow s (grownCap w s.size 0 5)) 5 ((bytesRow s (grownCap w s.size 0 5)).size,(bytesRow s (grownCap w s.size 0 5)).size+1))).heap[w.heap.size]? =_:=heap_alloc_new w.drew _
  have hj':j<(bytesRow s (grownCap w s.size 0 5)).size:=by
   have e:s.data.size=s.size:=rfl;simp[bytesRow];omega
  simp only[World.frozen?,hn];simp;omega
set_option maxHeartbeats 1000000
theorem Lh (s:ByteArray) (w:World) (hs:s.size<=1000000):
  Calls Tryz.prog 51 #[.string s] w fun e w'=>e= .returned (.string (A6 s))/\Below w.heap.size w w':=by
 obtain⟨cap,w1,hcv,hb1,hz1,hc1,hf1⟩:=SU s w;have h0:Jl w.heap.size s.size 0 (fun j=>EK (bt s j)) (bt s) w1:=⟨fun j hj=>by rw[hc1 j (by simpa using hj)];simp[Vv s j hj];rfl,hf1⟩;clear hc1 hf1 hz1;go_enter Tryz.func51,Tryz.ntmps51;go_wp2;go_loopw [10] (fun i wr=>∃k:Nat,k<=s.size/\i= .int .i64 k/\Hid (Jl w.heap.size s.size k (fun j=>EK (bt s j)) (bt s) wr/\Below w.heap.size w wr)) (fun i _=>s.size-(intOf i).toNat)
 case atStart=>exact⟨0,Nat.zero_le _,rfl,h0,hb1⟩
 case round=>
  clear h0 hb1 hcv;obtain⟨k,hk,rfl,hz⟩:=hrel
  by_cases hlt:k<s.size
  ·have hc:=hz.out.1.cell k hlt
   have hf:=hz.out.1.free k hlt;simp only[Nat.lt_irrefl,if_false]at hc;have hbt:=Xs s k;obtain⟨x,hx⟩:∃x,bt s k=x:=⟨_,rfl⟩;rw[hx]at hc hbt;have HX:Hid (bt s k=x):=hx;clear hx;obtain⟨a1,e1⟩:∃b,decide ((65:Int)<=(x:Int))=b:=⟨_,rfl⟩;obtain⟨a2,e2⟩:∃b,decide ((x:Int)<=90)=b:=⟨_,rfl⟩;have hi:(k:Int)<(s.size:Int):=by omega
   cases a1
   ·go_wp2
    go_roundw
    case rel=>
     refine⟨k+1,by omega,by go_num,hz.out.1.keep hlt ?_,hz.out.2⟩;show EK (bt s k)=_;simp only[decide_eq_false_iff_not]at e1;rw[HX.out,EK,if_neg (by omega)]
    case measure=>simp[intOf];omega
   ·cases a2
    ·go_wp2
     go_roundw
     case rel=>
      refine⟨k+1,by omega,by go_num,hz.out.1.keep hlt ?_,hz.out.2⟩;show EK (bt s k)=_;simp only[decide_eq_false_iff_not]at e2;rw[HX.out,EK,if_neg (by omega)]
     case measure=>simp[intOf];omega
    ·simp only[decide_eq_true_eq]at e1 e2
     go_wp2;go_roundw
     case rel=>
      refine⟨k+1,by omega,by go_num,hz.out.1.set hlt _ ?_,hz.out.2.setCell (p:=⟨_,k,none⟩) (Nat.le_refl _) _⟩;show _=((EK (bt s k):Nat):Int);rw[HX.out,EK,if_pos (by omega)];omega
     case measure=>simp[intOf];omega
  ·obtain rfl:k=s.size:=by omega
   have ht:=hz.out.1.text (cap:=cap) (Aw s.data.toList) (D8 s) (J9 s);go_wp2;go_ret;exact⟨rfl,hz.out.2⟩
end
section
open Go.Shelf Go.RowKit
theorem WU (s:ByteArray) (w:World) (hlim:s.size<=281474976710656):
  Calls Tryz.prog 120 #[.string s] w fun e w'=>e= .returned (.string s)/\Below w.heap.size w w':=Any.stringslite_Clone Tryz.laysM316 s w hlim
theorem Cg (s:ByteArray) (w:World) (hlim:s.size<=281474976710656):
  Calls Tryz.prog 85 #[.string s] w fun e w'=>e= .returned (.string s)/\Below w.heap.size w w':=by
 go_enter Tryz.func85,Tryz.ntmps85
 go_wp2_with (go_at_call 120;refine(WU _ _ hlim).mono ?_;rintro e w' ⟨rfl,hb⟩)
 go_ret;exact⟨rfl,hb⟩
end
section
open Go.RowKit
def AQ (w:World):Prop:=w.cell? ⟨0,0,none⟩=some (.string ⟨#[115,115,101,115]⟩)/\w.cell? ⟨0,1,none⟩=some (.string ⟨#[115,115]⟩)/\w.cell? ⟨0,2,none⟩=some (.string ⟨#[105,101,115]⟩)/\w.cell? ⟨0,3,none⟩=some (.string ⟨#[121]⟩)/\w.cell? ⟨0,4,none⟩=some (.string ⟨#[115,115]⟩)/\w.cell? ⟨0,5,none⟩=some (.string ⟨#[115,115]⟩)/\w.cell? ⟨0,6,none⟩=some (.string ⟨#[105,110,103]⟩)/\w.cell? ⟨0,7,none⟩=some (.string ⟨#[]⟩)/\w.cell? ⟨0,8,none⟩=some (.string ⟨#[101,100]⟩)/\w.cell? ⟨0,9,none⟩=some (.string ⟨#[]⟩)/\w.cell? ⟨0,10,none⟩=some (.string ⟨#[101,115]⟩)/\w.cell? ⟨0,11,none⟩=some (.string ⟨#[101]⟩)/\w.cell? ⟨0,12,none⟩=some (.string ⟨#[115]⟩)/\w.cell? ⟨0,13,none⟩=some (.string ⟨#[]⟩)
theorem AQ.below {w w':World} (h:AQ w) (hb:Below w.heap.size w w'):AQ w':=by
 have h0:0<w.heap.size:=World.block_lt_of_cell? w _ h.1;unfold AQ at h ⊢;have e:∀o,w'.cell? ⟨0,o,none⟩=w.cell? ⟨0,o,none⟩:=fun o=>hb.cell (p:=⟨0,o,none⟩) h0;simp only[e];exact h
theorem Zi (W:World):(Instr.index 165 (.agg #[.string ⟨#[115,115,101,115]⟩,.string ⟨#[115,115]⟩,.string ⟨#[105,101,115]⟩,.string ⟨#[121]⟩,.string ⟨#[115,115]⟩,.string ⟨#[115,115]⟩,.string ⟨#[105,110,103]⟩,.string ⟨#[]⟩,.string ⟨#[101,100]⟩,.string ⟨#[]⟩,.string ⟨#[101,115]⟩,.string ⟨#[101]⟩,.string ⟨#[115]⟩,.string ⟨#[]⟩]) (.int .i64 0)).run Tryz.prog W= .ok (.agg #[.string ⟨#[115,115,101,115]⟩,.string ⟨#[115,115]⟩]) W:=by kernel_rfl
theorem Zh (W:World):(Instr.index 165 (.agg #[.string ⟨#[115,115,101,115]⟩,.string ⟨#[115,115]⟩,.string ⟨#[105,101,115]⟩,.string ⟨#[121]⟩,.string ⟨#[115,115]⟩,.string ⟨#[115,115]⟩,.string ⟨#[105,110,103]⟩,.string ⟨#[]⟩,.string ⟨#[101,100]⟩,.string ⟨#[]⟩,.string ⟨#[101,115]⟩,.string ⟨#[101]⟩,.string ⟨#[115]⟩,.string ⟨#[]⟩]) (.int .i64 1)).run Tryz.prog W= .ok (.agg #[.string ⟨#[105,101,115]⟩,.string ⟨#[121]⟩]) W:=by kernel_rfl
theorem Zg (W:World):(Instr.index 165 (.agg #[.string ⟨#[115,115,101,115]⟩,.string ⟨#[115,115]⟩,.string ⟨#[105,101,115]⟩,.string ⟨#[121]⟩,.string ⟨#[115,115]⟩,.string ⟨#[115,115]⟩,.string ⟨#[105,110,103]⟩,.string ⟨#[]⟩,.string ⟨#[101,100]⟩,.string ⟨#[]⟩,.string ⟨#[101,115]⟩,.string ⟨#[101]⟩,.string ⟨#[115]⟩,.string ⟨#[]⟩]) (.int .i64 2)).run Tryz.prog W= .ok (.agg #[.string ⟨#[115,115]⟩,.string ⟨#[115,115]⟩]) W:=by kernel_rfl
theorem Zf (W:World):(Instr.index 165 (.agg #[.string ⟨#[115,115,101,115]⟩,.string ⟨#[115,115]⟩,.string ⟨#[105,101,115]⟩,.string ⟨#[121]⟩,.string ⟨#[115,115]⟩,.string ⟨#[115,115]⟩,.string ⟨#[105,110,103]⟩,.string ⟨#[]⟩,.string ⟨#[101,100]⟩,.string ⟨#[]⟩,.string ⟨#[101,115]⟩,.string ⟨#[101]⟩,.string ⟨#[115]⟩,.string ⟨#[]⟩]) (.int .i64 3)).run Tryz.prog W= .ok (.agg #[.string ⟨#[105,110,103]⟩,.string ⟨#[]⟩]) W:=by kernel_rfl
theorem Ze (W:World):(Instr.index 165 (.agg #[.string ⟨#[115,115,101,115]⟩,.string ⟨#[115,115]⟩,.string ⟨#[105,101,115]⟩,.string ⟨#[121]⟩,.string ⟨#[115,115]⟩,.string ⟨#[115,115]⟩,.string ⟨#[105,110,103]⟩,.string ⟨#[]⟩,.string ⟨#[101,100]⟩,.string ⟨#[]⟩,.string ⟨#[101,115]⟩,.string ⟨#[101]⟩,.string ⟨#[115]⟩,.string ⟨#[]⟩]) (.int .i64 4)).run Tryz.prog W= .ok (.agg #[.string ⟨#[101,100]⟩,.string ⟨#[]⟩]) W:=by kernel_rfl
theorem Zd (W:World):(Instr.index 165 (.agg #[.string ⟨#[115,115,101,115]⟩,.string ⟨#[115,115]⟩,.string ⟨#[105,101,115]⟩,.string ⟨#[121]⟩,.string ⟨#[115,115]⟩,.string ⟨#[115,115]⟩,.string ⟨#[105,110,103]⟩,.string ⟨#[]⟩,.string ⟨#[101,100]⟩,.string ⟨#[]⟩,.string ⟨#[101,115]⟩,.string ⟨#[101]⟩,.string ⟨#[115]⟩,.string ⟨#[]⟩]) (.int .i64 5)).run Tryz.prog W= .ok (.agg #[.string ⟨#[101,115]⟩,.string ⟨#[101]⟩]) W:=by kernel_rfl
theorem Zc (W:World):(Instr.index 165 (.agg #[.string ⟨#[115,115,101,115]⟩,.string ⟨#[115,115]⟩,.string ⟨#[105,101,115]⟩,.string ⟨#[121]⟩,.string ⟨#[115,115]⟩,.string ⟨#[115,115]⟩,.string ⟨#[105,110,103]⟩,.string ⟨#[]⟩,.string ⟨#[101,100]⟩,.string ⟨#[]⟩,.string ⟨#[101,115]⟩,.string ⟨#[101]⟩,.string ⟨#[115]⟩,.string ⟨#[]⟩]) (.int .i64 6)).run Tryz.prog W= .ok (.agg #[.string ⟨#[115]⟩,.string ⟨#[]⟩]) W:=by kernel_rfl
theorem TD (s:ByteArray) (w:World) (hs:s.size<=1000000) (he:AQ w):
  Calls Tryz.prog 50 #[.string s] w fun e w'=>e= .returned (.string (EP s))/\Below w.heap.size w w':=by
 obtain⟨q0,q1,q2,q3,q4,q5,q6,q7,q8,q9,q10,q11,q12,q13⟩:=he;have HR:Hid (AW (B6.drop 0) s=EP s):=rfl;generalize EP s=R at *;go_enter Tryz.func50,Tryz.ntmps50;go_wp2;clear q0 q1 q2 q3 q4 q5 q6 q7 q8 q9 q10 q11 q12 q13;go_loopw [0,7] (fun x i wr=>∃k:Nat,k<=7/\x= .string s/\i= .int .i64 k/\Hid (Below w.heap.size w wr/\AW (B6.drop k) s=R)) (fun _ i _=>7-(intOf i).toNat)
 case atStart=>exact⟨0,Nat.zero_le _,rfl,rfl,Below.refl _ _,HR.out⟩
 case round=>
  clear HR;obtain⟨k,hk,rfl,rfl,hz⟩:=hrel;have hk7:k=0\/k=1\/k=2\/k=3\/k=4\/k=5\/k=6\/k=7:=by omega
  rcases hk7 with rfl|rfl|rfl|rfl|rfl|rfl|rfl|rfl
  ·have hix:=Zi wr
   cases hb:CA s ⟨#[115,115,101,115]⟩
   ·go_wp2_with (go_at_call 84;refine(AN _ _ _ hs (by decide)).mono ?_;rintro e w' ⟨rfl,rfl⟩)
    go_roundw
    case rel=>exact⟨1,by omega,rfl,by go_num,by have:=hz.out.1.size;exact hz.out.1.alloc (by omega) _,(Bm hb).symm.trans hz.out.2⟩
    case measure=>simp[intOf]
   ·by_cases h3:4+3<=s.size
    ·have HS:Hid (s.extract 0 (s.size-4)++⟨#[115,115]⟩=R):=(BL (r:=⟨#[115,115]⟩) (t:=B6.drop 1) hb h3).symm.trans hz.out.2
     have h3':(3:Int)<=(s.size:Int)-4:=by omega
     go_wp2_with (go_at_call 84;refine(AN _ _ _ hs (by decide)).mono ?_;rintro e w' ⟨rfl,rfl⟩)
     go_region
     have HL:Hid (R.size<=281474976710656):=by show _<=_;rw[<-HS.out];have e:(⟨#[115,115]⟩:ByteArray).size=2:=rfl;simp only[ByteArray.size_append,ByteArray.size_extract,e];omega
     go_wp2_with (go_at_call 85;rw[HS.out];refine(Cg _ _ HL.out).mono ?_;rintro e w' ⟨rfl,hb⟩)
     go_ret;exact⟨rfl,by have:=hz.out.1.size;exact((hz.out.1.alloc this _).drew).trans (hb.mono (by simp;omega))⟩
    ·have HS:Hid (s=R):=(AV (r:=⟨#[115,115]⟩) (t:=B6.drop 1) hb h3).symm.trans hz.out.2
     have h3':(s.size:Int)-4<3:=by omega
     go_wp2_with (first|(go_at_call 84;refine(AN _ _ _ hs (by decide)).mono ?_;rintro e w' ⟨rfl,rfl⟩)|(go_at_call 85;refine(Cg _ _ (by omega)).mono ?_;rintro e w' ⟨rfl,hb⟩))
     go_ret;rw[HS.out];exact⟨rfl,by have:=hz.out.1.size;exact(hz.out.1.alloc (by omega) _).trans (hb.mono (by simp;omega))⟩
  ·have hix:=Zh wr
   cases hb:CA s ⟨#[105,101,115]⟩
   ·go_wp2_with (go_at_call 84;refine(AN _ _ _ hs (by decide)).mono ?_;rintro e w' ⟨rfl,rfl⟩)
    go_roundw
    case rel=>exact⟨2,by omega,rfl,by go_num,by have:=hz.out.1.size;exact hz.out.1.alloc (by omega) _,(Bm hb).symm.trans hz.out.2⟩
    case measure=>simp[intOf]
   ·by_cases h3:3+3<=s.size
    ·have HS:Hid (s.extract 0 (s.size-3)++⟨#[121]⟩=R):=(BL (r:=⟨#[121]⟩) (t:=B6.drop 2) hb h3).symm.trans hz.out.2
     have h3':(3:Int)<=(s.size:Int)-3:=by omega
     go_wp2_with (go_at_call 84;refine(AN _ _ _ hs (by decide)).mono ?_;rintro e w' ⟨rfl,rfl⟩)
     go_region
     have HL:Hid (R.size<=281474976710656):=by show _<=_;rw[<-HS.out];have e:(⟨#[121]⟩:ByteArray).size=1:=rfl;simp only[ByteArray.size_append,ByteArray.size_extract,e];omega
     go_wp2_with (go_at_call 85;rw[HS.out];refine(Cg _ _ HL.out).mono ?_;rintro e w' ⟨rfl,hb⟩)
     go_ret;exact⟨rfl,by have:=hz.out.1.size;exact((hz.out.1.alloc this _).drew).trans (hb.mono (by simp;omega))⟩
    ·have HS:Hid (s=R):=(AV (r:=⟨#[121]⟩) (t:=B6.drop 2) hb h3).symm.trans hz.out.2
     have h3':(s.size:Int)-3<3:=by omega
     go_wp2_with (first|(go_at_call 84;refine(AN _ _ _ hs (by decide)).mono ?_;rintro e w' ⟨rfl,rfl⟩)|(go_at_call 85;refine(Cg _ _ (by omega)).mono ?_;rintro e w' ⟨rfl,hb⟩))
     go_ret;rw[HS.out];exact⟨rfl,by have:=hz.out.1.size;exact(hz.out.1.alloc (by omega) _).trans (hb.mono (by simp;omega))⟩
  ·have hix:=Zg wr
   cases hb:CA s ⟨#[115,115]⟩
   ·go_wp2_with (go_at_call 84;refine(AN _ _ _ hs (by decide)).mono ?_;rintro e w' ⟨rfl,rfl⟩)
    go_roundw
    case rel=>exact⟨3,by omega,rfl,by go_num,by have:=hz.out.1.size;exact hz.out.1.alloc (by omega) _,(Bm hb).symm.trans hz.out.2⟩
    case measure=>simp[intOf]
   ·by_cases h3:2+3<=s.size
    ·have HS:Hid (s.extract 0 (s.size-2)++⟨#[115,115]⟩=R):=(BL (r:=⟨#[115,115]⟩) (t:=B6.drop 3) hb h3).symm.trans hz.out.2
     have h3':(3:Int)<=(s.size:Int)-2:=by omega
     go_wp2_with (go_at_call 84;refine(AN _ _ _ hs (by decide)).mono ?_;rintro e w' ⟨rfl,rfl⟩)
     go_region
     have HL:Hid (R.size<=281474976710656):=by show _<=_;rw[<-HS.out];have e:(⟨#[115,115]⟩:ByteArray).size=2:=rfl;simp only[ByteArray.size_append,ByteArray.size_extract,e];omega
     go_wp2_with (go_at_call 85;rw[HS.out];refine(Cg _ _ HL.out).mono ?_;rintro e w' ⟨rfl,hb⟩)
     go_ret;exact⟨rfl,by have:=hz.out.1.size;exact((hz.out.1.alloc this _).drew).trans (hb.mono (by simp;omega))⟩
    ·have HS:Hid (s=R):=(AV (r:=⟨#[115,115]⟩) (t:=B6.drop 3) hb h3).symm.trans hz.out.2
     have h3':(s.size:Int)-2<3:=by omega
     go_wp2_with (first|(go_at_call 84;refine(AN _ _ _ hs (by decide)).mono ?_;rintro e w' ⟨rfl,rfl⟩)|(go_at_call 85;refine(Cg _ _ (by omega)).mono ?_;rintro e w' ⟨rfl,hb⟩))
     go_ret;rw[HS.out];exact⟨rfl,by have:=hz.out.1.size;exact(hz.out.1.alloc (by omega) _).trans (hb.mono (by simp;omega))⟩
  ·have hix:=Zf wr
   cases hb:CA s ⟨#[105,110,103]⟩
   ·go_wp2_with (go_at_call 84;refine(AN _ _ _ hs (by decide)).mono ?_;rintro e w' ⟨rfl,rfl⟩)
    go_roundw
    case rel=>exact⟨4,by omega,rfl,by go_num,by have:=hz.out.1.size;exact hz.out.1.alloc (by omega) _,(Bm hb).symm.trans hz.out.2⟩
    case measure=>simp[intOf]
   ·by_cases h3:3+3<=s.size
    ·have HS:Hid (s.extract 0 (s.size-3)++⟨#[]⟩=R):=(BL (r:=⟨#[]⟩) (t:=B6.drop 4) hb h3).symm.trans hz.out.2
     have h3':(3:Int)<=(s.size:Int)-3:=by omega
     go_wp2_with (go_at_call 84;refine(AN _ _ _ hs (by decide)).mono ?_;rintro e w' ⟨rfl,rfl⟩)
     go_region
     have HL:Hid (R.size<=281474976710656):=by show _<=_;rw[<-HS.out];have e:(⟨#[]⟩:ByteArray).size=0:=rfl;simp only[ByteArray.size_append,ByteArray.size_extract,e];omega
     go_wp2_with (go_at_call 85;rw[HS.out];refine(Cg _ _ HL.out).mono ?_;rintro e w' ⟨rfl,hb⟩)
     go_ret;exact⟨rfl,by have:=hz.out.1.size;exact((hz.out.1.alloc this _).drew).trans (hb.mono (by simp;omega))⟩
    ·have HS:Hid (s=R):=(AV (r:=⟨#[]⟩) (t:=B6.drop 4) hb h3).symm.trans hz.out.2
     have h3':(s.size:Int)-3<3:=by omega
     go_wp2_with (first|(go_at_call 84;refine(AN _ _ _ hs (by decide)).mono ?_;rintro e w' ⟨rfl,rfl⟩)|(go_at_call 85;refine(Cg _ _ (by omega)).mono ?_;rintro e w' ⟨rfl,hb⟩))
     go_ret;rw[HS.out];exact⟨rfl,by have:=hz.out.1.size;exact(hz.out.1.alloc (by omega) _).trans (hb.mono (by simp;omega))⟩
  ·have hix:=Ze wr
   cases hb:CA s ⟨#[101,100]⟩
   ·go_wp2_with (go_at_call 84;refine(AN _ _ _ hs (by decide)).mono ?_;rintro e w' ⟨rfl,rfl⟩)
    go_roundw
    case rel=>exact⟨5,by omega,rfl,by go_num,by have:=hz.out.1.size;exact hz.out.1.alloc (by omega) _,(Bm hb).symm.trans hz.out.2⟩
    case measure=>simp[intOf]
   ·by_cases h3:2+3<=s.size
    ·have HS:Hid (s.extract 0 (s.size-2)++⟨#[]⟩=R):=(BL (r:=⟨#[]⟩) (t:=B6.drop 5) hb h3).symm.trans hz.out.2
     have h3':(3:Int)<=(s.size:Int)-2:=by omega
     go_wp2_with (go_at_call 84;refine(AN _ _ _ hs (by decide)).mono ?_;rintro e w' ⟨rfl,rfl⟩)
     go_region
     have HL:Hid (R.size<=281474976710656):=by show _<=_;rw[<-HS.out];have e:(⟨#[]⟩:ByteArray).size=0:=rfl;simp only[ByteArray.size_append,ByteArray.size_extract,e];omega
     go_wp2_with (go_at_call 85;rw[HS.out];refine(Cg _ _ HL.out).mono ?_;rintro e w' ⟨rfl,hb⟩)
     go_ret;exact⟨rfl,by have:=hz.out.1.size;exact((hz.out.1.alloc this _).drew).trans (hb.mono (by simp;omega))⟩
    ·have HS:Hid (s=R):=(AV (r:=⟨#[]⟩) (t:=B6.drop 5) hb h3).symm.trans hz.out.2
     have h3':(s.size:Int)-2<3:=by omega
     go_wp2_with (first|(go_at_call 84;refine(AN _ _ _ hs (by decide)).mono ?_;rintro e w' ⟨rfl,rfl⟩)|(go_at_call 85;refine(Cg _ _ (by omega)).mono ?_;rintro e w' ⟨rfl,hb⟩))
     go_ret;rw[HS.out];exact⟨rfl,by have:=hz.out.1.size;exact(hz.out.1.alloc (by omega) _).trans (hb.mono (by simp;omega))⟩
  ·have hix:=Zd wr
   cases hb:CA s ⟨#[101,115]⟩
   ·go_wp2_with (go_at_call 84;refine(AN _ _ _ hs (by decide)).mono ?_;rintro e w' ⟨rfl,rfl⟩)
    go_roundw
    case rel=>exact⟨6,by omega,rfl,by go_num,by have:=hz.out.1.size;exact hz.out.1.alloc (by omega) _,(Bm hb).symm.trans hz.out.2⟩
    case measure=>simp[intOf]
   ·by_cases h3:2+3<=s.size
    ·have HS:Hid (s.extract 0 (s.size-2)++⟨#[101]⟩=R):=(BL (r:=⟨#[101]⟩) (t:=B6.drop 6) hb h3).symm.trans hz.out.2
     have h3':(3:Int)<=(s.size:Int)-2:=by omega
     go_wp2_with (go_at_call 84;refine(AN _ _ _ hs (by decide)).mono ?_;rintro e w' ⟨rfl,rfl⟩)
     go_region
     have HL:Hid (R.size<=281474976710656):=by show _<=_;rw[<-HS.out];have e:(⟨#[101]⟩:ByteArray).size=1:=rfl;simp only[ByteArray.size_append,ByteArray.size_extract,e];omega
     go_wp2_with (go_at_call 85;rw[HS.out];refine(Cg _ _ HL.out).mono ?_;rintro e w' ⟨rfl,hb⟩)
     go_ret;exact⟨rfl,by have:=hz.out.1.size;exact((hz.out.1.alloc this _).drew).trans (hb.mono (by simp;omega))⟩
    ·have HS:Hid (s=R):=(AV (r:=⟨#[101]⟩) (t:=B6.drop 6) hb h3).symm.trans hz.out.2
     have h3':(s.size:Int)-2<3:=by omega
     go_wp2_with (first|(go_at_call 84;refine(AN _ _ _ hs (by decide)).mono ?_;rintro e w' ⟨rfl,rfl⟩)|(go_at_call 85;refine(Cg _ _ (by omega)).mono ?_;rintro e w' ⟨rfl,hb⟩))
     go_ret;rw[HS.out];exact⟨rfl,by have:=hz.out.1.size;exact(hz.out.1.alloc (by omega) _).trans (hb.mono (by simp;omega))⟩
  ·have hix:=Zc wr
   cases hb:CA s ⟨#[115]⟩
   ·go_wp2_with (go_at_call 84;refine(AN _ _ _ hs (by decide)).mono ?_;rintro e w' ⟨rfl,rfl⟩)
    go_roundw
    case rel=>exact⟨7,by omega,rfl,by go_num,by have:=hz.out.1.size;exact hz.out.1.alloc (by omega) _,(Bm hb).symm.trans hz.out.2⟩
    case measure=>simp[intOf]
   ·by_cases h3:1+3<=s.size
    ·have HS:Hid (s.extract 0 (s.size-1)++⟨#[]⟩=R):=(BL (r:=⟨#[]⟩) (t:=B6.drop 7) hb h3).symm.trans hz.out.2
     have h3':(3:Int)<=(s.size:Int)-1:=by omega
     go_wp2_with (go_at_call 84;refine(AN _ _ _ hs (by decide)).mono ?_;rintro e w' ⟨rfl,rfl⟩)
     go_region
     have HL:Hid (R.size<=281474976710656):=by show _<=_;rw[<-HS.out];have e:(⟨#[]⟩:ByteArray).size=0:=rfl;simp only[ByteArray.size_append,ByteArray.size_extract,e];omega
     go_wp2_with (go_at_call 85;rw[HS.out];refine(Cg _ _ HL.out).mono ?_;rintro e w' ⟨rfl,hb⟩)
     go_ret;exact⟨rfl,by have:=hz.out.1.size;exact((hz.out.1.alloc this _).drew).trans (hb.mono (by simp;omega))⟩
    ·have HS:Hid (s=R):=(AV (r:=⟨#[]⟩) (t:=B6.drop 7) hb h3).symm.trans hz.out.2
     have h3':(s.size:Int)-1<3:=by omega
     go_wp2_with (first|(go_at_call 84;refine(AN _ _ _ hs (by decide)).mono ?_;rintro e w' ⟨rfl,rfl⟩)|(go_at_call 85;refine(Cg _ _ (by omega)).mono ?_;rintro e w' ⟨rfl,hb⟩))
     go_ret;rw[HS.out];exact⟨rfl,by have:=hz.out.1.size;exact(hz.out.1.alloc (by omega) _).trans (hb.mono (by simp;omega))⟩
  ·have HS:Hid (s=R):=hz.out.2
   go_wp2_with (go_at_call 85;refine(Cg _ _ (by omega)).mono ?_;rintro e w' ⟨rfl,hb⟩)
   go_ret;rw[HS.out];exact⟨rfl,hz.out.1.trans (hb.mono hz.out.1.size)⟩
theorem Kg (s:ByteArray) (n:Nat) (hn:EL s.data.toList=n) (w:World) (hs:s.size<=1000000):
  Calls Tryz.prog 49 #[.string s] w fun e w'=>e= .returned (.int .i64 n)/\w'=w:=by
 rw[<-hn];exact NW s w hs
theorem Gx (s:ByteArray) (w:World) (hs:s.size<=900000) (he:AQ w):
  Calls Tryz.prog 24 #[.string s] w fun e w'=>∃v,e= .returned v/\w'.ownsRow w.heap.size 9 1 v (Ad s.data.toList).length (sc (Ad s.data.toList))/\Below w.heap.size w w':=by
 obtain⟨i0,hi,hz0,hz1,hz2⟩:=Ja;have HW:Hid ((Ad s.data.toList).length<=900001/\AQ w):=⟨by have:=CK s.data.toList;rw[AF]at this;omega,he⟩;clear he;generalize hWs:Ad s.data.toList=W at *;have HS:Hid (Ad s.data.toList=W):=hWs;clear hWs;go_enter Tryz.func24,Tryz.ntmps24;go_wp2;go_loopw [0,3] (fun x v wr=>∃(t:ByteArray) (ws:List ByteArray),t.size<=s.size/\x= .string t/\Hid (ws++Ad t.data.toList=W)/\Hid (wr.ownsRow w.heap.size 9 1 v ws.length (sc ws)/\Below w.heap.size w wr)) (fun x _ _=>J6 x)
 case atStart=>exact⟨s,[],Nat.le_refl _,rfl,HS.out,World.ownsRow_nil w _ 9 1,Below.refl _ _⟩
 case round=>
  clear HS;obtain⟨t,ws,hts,rfl,hws,hown⟩:=hrel
  by_cases h0:0<t.size
  ·obtain⟨n,hn⟩:∃n,EL t.data.toList=n:=⟨_,rfl⟩
   have hle:=Wy t.data.toList;rw[hn,AF]at hle;have HN:Hid (EL t.data.toList=n):=hn
   have HD:Hid (Ad (t.extract (min (n+1) t.size) t.size).data.toList=Ad (t.data.toList.drop (n+1))):=by
    show _=_;rw[Ch,List.take_of_length_le (by rw[AF];exact Nat.le_refl _)];have:=Vd t.data.toList (n+1);rw[AF]at this;rw[this]
   clear hn
   by_cases hn0:n=0
   ·subst hn0
    have HX:Hid (ws++Ad (t.extract (min (0+1) t.size) t.size).data.toList=W):=by
     show _=_;rw[HD.out,<-hws.out,Jz t.data.toList,HN.out];simp
    clear HD
    go_wp2_with (go_at_call 49;refine(Kg _ 0 HN.out _ (by omega)).mono ?_;rintro e w' ⟨rfl,rfl⟩)
    go_roundw
    case rel=>
     have e:(min (1:Int) (t.size:Int)).toNat=min (0+1) t.size:=by omega
     exact⟨_,ws,by simp;omega,rfl,by rw[e];exact HX.out,hown.out⟩
    case measure=>simp[J6];omega
   ·have HX:Hid ((ws++[BC (t.data.toList.take n)])++Ad (t.extract (min (n+1) t.size) t.size).data.toList=W):=by
     show _=_;rw[HD.out,<-hws.out,Jz t.data.toList,HN.out,if_neg hn0];simp
    have HL:Hid (ws.length<=900001):=by
     show _<=_;have h1:=HW.out.1;rw[<-hws.out]at h1;simp at h1;omega
    clear HD;have hn1:(0:Int)<(n:Int):=by omega
    have HQ:Hid (EP (A6 (t.extract 0 (min (n:Int) 12).toNat))=BC (t.data.toList.take n)):=by
     show _=_;rw[show(min (n:Int) 12).toNat=min n 12 by omega];exact Rh t n
    have HB:Hid (Below w.heap.size w wr):=hown.out.2;have HO:Hid (wr.ownsRow w.heap.size 9 1 u3 ws.length (sc ws)):=hown.out.1;clear hown;go_wp2_with fail;refine(Kg _ n HN.out _ (by omega)).mono ?_;rintro _ wr ⟨rfl,rfl⟩;go_wp2_with fail;refine(Lh _ _ (by simp;omega)).mono ?_;rintro _ w1 ⟨rfl,hb1⟩;have HE:Hid (AQ w1):=(HW.out.2.below HB.out).below hb1;go_wp2_with fail;refine(TD _ _ (by rw[Dk];simp;omega) HE.out).mono ?_;rintro _ w2 ⟨rfl,hb2⟩;rw[HQ.out];have HB2:Hid (Below w.heap.size w w2):=(HB.out.trans (hb1.mono HB.out.size)).trans (hb2.mono (Nat.le_trans HB.out.size hb1.size));have HO2:Hid (w2.ownsRow w.heap.size 9 1 u3 ws.length (sc ws)):=Fm (Fm HO.out hb1) hb2;clear HB HO hb1 hb2 HE HQ;obtain⟨x,hx⟩:∃x,BC (t.data.toList.take n)=x:=⟨_,rfl⟩;rw[hx];have HX:Hid _:=HX.out;rw[hx]at HX;clear hx
    go_wp2_with (at_builtin;refine wpList_append_own _ rfl _ _ 22 rfl w.heap.size 9 i0 (.string ⟨#[]⟩) 1 16 Tryz.underlying22 hi hz0 hz1 hz2 rfl (by decide) _ _ _ rfl (HO2.out.alloc _) ⟨w2.heap.size,0,none⟩ 1 1 [.string x] rfl rfl ?c1 ?c2 ?c3 ?c4 ?c5 ?_)
    case c1=>exact cell_one_new _ _ _
    case c2=>intro y hy;simp at hy;subst hy;rfl
    case c3=>have:=HL.out;simp[maxLen];omega
    case c4=>have:=HL.out;omega
    case c5=>have:=HB2.out.size;simp;omega
    ·intro v' w3 hown' hgrow _
     have hbl':=HB2.out.size;have HB3:Hid (Below w.heap.size w w3):=(HB2.out.alloc (by omega) _).grown hgrow (by simp;omega) (fun g hg=>(HO2.out.lt g hg).1);have HO3:Hid (w3.ownsRow w.heap.size 9 1 v' (ws++[x]).length (sc (ws++[x]))):=Hb hown' (by simp) (by simp[sc]);clear HB2 HO2 hown' hgrow hbl';go_wp2;go_roundw
     case rel=>
      have e:(min ((n:Int)+1) (t.size:Int)).toNat=min (n+1) t.size:=by omega
      exact⟨_,ws++[x],by simp;omega,rfl,by rw[e];exact HX.out,HO3.out,HB3.out⟩
     case measure=>simp[J6];omega
  ·go_wp2
   go_ret
   obtain rfl:t=⟨#[]⟩:=by
    cases t with
    |mk d=>
     have:d.size=0:=Nat.eq_zero_of_not_pos h0;simp[Array.size_eq_zero_iff.1 this]
   have e:ws=W:=by have:=hws.out;simpa [Ad,Eb]using this
   subst e;exact⟨_,rfl,hown.out.1,hown.out.2⟩
end
end Go.Proofs.YtgfldnaahojnlaaGreatDoor
