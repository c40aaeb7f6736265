/- StoreFinds: part 30. -/
import Derived.Test.YtihnldkgeelehaaGreatDoorF29
import Derived.Shelf.LaysM
import Derived.Shelf.Strconv.Clone
set_option maxRecDepth 100000
set_option maxHeartbeats 4000000
namespace Go.Proofs.YtihnldkgeelehaaGreatDoor
section
open Go.RowKit
def Im (x:Nat):Bool:=decide (65<=x) && decide (x<=90) || decide (97<=x) && decide (x<=122) || decide (48<=x) && decide (x<=57) || decide (127<x)
def isL (c:UInt8):Bool:=Im c.toNat
def DZ (l:List UInt8):Nat:=l.findIdx (fun c=> !isL c)
theorem Qg (s:ByteArray) (hz:∀j (h2:j<s.size),Im s[j].toNat=true):DZ s.data.toList=s.size:=by
 unfold DZ;have:s.size=s.data.toList.length:=by simp
 rw[this,List.findIdx_eq_length];intro x hx;obtain⟨j,hj,rfl⟩:=List.getElem_of_mem hx;have:Im (s.data[j]'(by simpa using hj)).toNat=true:=hz j (by simpa using hj);simpa [isL]using this
def Fh (s e:ByteArray):Bool:=decide (e.size<=s.size) && ((s.extract (s.size-e.size) s.size).toList == e.toList)
def G5 (x:Nat):Nat:=if 65<=x/\x<=90 then x+32 else x
theorem Tq (c:UInt8):G5 c.toNat<256:=by
 have:=c.toNat_lt;unfold G5;split<;>omega
def low (c:UInt8):UInt8:=UInt8.ofNat (G5 c.toNat)
theorem ON (c:UInt8):(low c).toNat=G5 c.toNat:=by
 have:=Tq c;simp[low];omega
def Ca (l:List UInt8):List UInt8:=l.map low
def IM (s:ByteArray):ByteArray:=⟨(Ca s.data.toList).toArray⟩
structure Ki (B n k:Nat) (l m:Nat->Nat) (w:World):Prop where
 cell:∀j,j<n->w.cell? ⟨B,j,none⟩=some (.int .u8 ((if j<k then l j else m j:Nat):Int))
 free:∀j,j<n->w.frozen? ⟨B,j,none⟩=false
theorem Ki.set {B n k:Nat} {l m:Nat->Nat} {w:World} (h:Ki B n k l m w) (hk:k<n) (x:Int) (hx:x=(l k:Int)):Ki B n (k+1) l m (w.setCell ⟨B,k,none⟩ (.int .u8 x)):=by
 subst hx;refine⟨fun j hj=> ?_,fun j hj=>by rw[World.frozen?_setCell];exact h.free j hj⟩
 by_cases e:j=k
 ·subst e
  rw[World.cell?_setCell_same _ _ _ (h.cell j hj)];simp
 ·rw[World.cell?_setCell_other _ _ _ _ (fun q=>e (by cases q;rfl)),h.cell j hj]
  have:(j<k+1)=(j<k):=by simp;omega
  simp only[this]
theorem Ki.keep {B n k:Nat} {l m:Nat->Nat} {w:World} (h:Ki B n k l m w) (hk:k<n) (hx:l k=m k):Ki B n (k+1) l m w:=by
 refine⟨fun j hj=> ?_,h.free⟩;rw[h.cell j hj]
 by_cases e:j=k
 ·subst e;simp[hx]
 ·have:(j<k+1)=(j<k):=by simp;omega
  simp only[this]
def bt (s:ByteArray) (j:Nat):Nat:=if h:j<s.size then s[j].toNat else 0
theorem Um (s:ByteArray) (j:Nat) (h:j<s.size):bt s j=s[j].toNat:=by simp[bt,h]
theorem VL (s:ByteArray) (j:Nat):bt s j<256:=by
 unfold bt;split
 ·exact UInt8.toNat_lt _
 ·omega
theorem N8 (s:ByteArray) (j:Nat) (hj:j<(Ca s.data.toList).length):((Ca s.data.toList)[j]).toNat=G5 (bt s j):=by
 have hj':j<s.data.size:=by simpa [Ca]using hj
 rw[Um s j hj'];simp[Ca,ON];rfl
theorem Kv (s:ByteArray):(Ca s.data.toList).length=s.size:=by simp[Ca]
theorem Mo (s:ByteArray):(IM s).size=s.size:=by
 show(Ca s.data.toList).toArray.size=_;simp[Kv]
def CT:List (ByteArray×ByteArray):=[(⟨#[115,115,101,115]⟩,⟨#[115,115]⟩),(⟨#[105,101,115]⟩,⟨#[121]⟩),(⟨#[115,115]⟩,⟨#[115,115]⟩),(⟨#[105,110,103]⟩,⟨#[]⟩),(⟨#[101,100]⟩,⟨#[]⟩),(⟨#[101,115]⟩,⟨#[101]⟩),(⟨#[115]⟩,⟨#[]⟩)]
def AQ:List (ByteArray×ByteArray)->ByteArray->ByteArray
 | [],s=>s
 |(e,r)::t,s=>if Fh s e then(if e.size+3<=s.size then s.extract 0 (s.size-e.size)++r else s)else AQ t s
def IJ (s:ByteArray):ByteArray:=AQ CT s
theorem E8 {e r s:ByteArray} {t:List (ByteArray×ByteArray)} (h:Fh s e=false):AQ ((e,r)::t) s=AQ t s:=by simp[AQ,h]
theorem Cx {e r s:ByteArray} {t:List (ByteArray×ByteArray)} (h:Fh s e=true) (h3:¬e.size+3<=s.size):AQ ((e,r)::t) s=s:=by simp only[AQ,h,if_true,if_neg h3]
theorem DB {e r s:ByteArray} {t:List (ByteArray×ByteArray)} (h:Fh s e=true) (h3:e.size+3<=s.size):AQ ((e,r)::t) s=s.extract 0 (s.size-e.size)++r:=by simp only[AQ,h,if_true,if_pos h3]
def ER:List UInt8->List UInt8->List (List UInt8)
 |cur,[]=>if cur.isEmpty then []else [cur]
 |cur,c::l=>if isL c then ER (cur++[c]) l else(if cur.isEmpty then []else [cur])++ER [] l
def ET (r:List UInt8):ByteArray:=IJ ⟨((Ca r).take 12).toArray⟩
def Ah (l:List UInt8):List ByteArray:=(ER [] l).map ET
theorem JW (c:UInt8) (l:List UInt8) (h:isL c=true):DZ (c::l)=DZ l+1:=by simp[DZ,List.findIdx_cons,h]
theorem LE (c:UInt8) (l:List UInt8) (h:isL c=false):DZ (c::l)=0:=by simp[DZ,List.findIdx_cons,h]
theorem P8 (l:List UInt8):∀cur,ER cur l=(if(cur++l.take (DZ l)).isEmpty then []else [cur++l.take (DZ l)])++ER [] (l.drop (DZ l+1)):=by
 induction l with
 |nil=>intro cur;simp[ER]
 |cons c l ih=>
  intro cur
  cases h:isL c
  ·rw[LE c l h]
   simp[ER,h]
  ·rw[JW c l h,ER,if_pos h,ih]
   simp
theorem I9 (l:List UInt8):Ah l=(if DZ l=0 then []else [ET (l.take (DZ l))])++Ah (l.drop (DZ l+1)):=by
 unfold Ah;rw[P8 l []]
 by_cases h:DZ l=0
 ·simp[h]
 ·have hl:l.take (DZ l)≠[]:=by
   intro e;rcases List.take_eq_nil_iff.1 e with h'|h'
   ·exact h h'
   ·subst h';exact h rfl
  simp[h,hl]
theorem Tv (l:List UInt8):DZ l<=l.length:=List.findIdx_le_length
theorem Sl {α:Type} (l:List α) (n:Nat):l.drop (min n l.length)=l.drop n:=by
 by_cases h:n<=l.length
 ·rw[Nat.min_eq_left h]
 ·rw[Nat.min_eq_right (by omega),List.drop_length,List.drop_eq_nil_of_le (by omega)]
theorem SB {a b:ByteArray} (h:a.data.toList=b.data.toList):a=b:=by
 cases a;cases b;simp at h;simp[h]
theorem JI (s:ByteArray) (a b:Nat):(s.extract a b).data.toList=(s.data.toList.take b).drop a:=by
 rw[ByteArray.data_extract,Array.toList_extract,List.extract_eq_take_drop,List.drop_take]
theorem LW (s:ByteArray):s.data.toList.length=s.size:=by simp
theorem Pq (t:ByteArray) (n:Nat):IJ (IM (t.extract 0 (min n 12)))=ET (t.data.toList.take n):=by
 unfold ET IM;rw[JI];simp only[List.drop_zero,Ca,<-List.map_take,List.take_take,Nat.min_comm]
theorem Mn (t:List (ByteArray×ByteArray)) (s:ByteArray) (h:∀x∈t,x.2.size<=x.1.size):(AQ t s).size<=s.size:=by
 induction t with
 |nil=>simp[AQ]
 |cons x t ih=>
  obtain⟨e,r⟩:=x;have hx:=h (e,r) (by simp);simp only at hx;unfold AQ;split
  ·split
   ·simp only[ByteArray.size_append,ByteArray.size_extract];omega
   ·exact Nat.le_refl _
  ·exact ih fun y hy=>h y (by simp[hy])
theorem SU (s:ByteArray):(IJ s).size<=s.size:=Mn _ _ (by decide)
theorem Kk (r:List UInt8):(ET r).size<=12:=by
 refine Nat.le_trans (SU _) ?_;show((Ca r).take 12).toArray.size<=12;simp;omega
theorem QP (l:List UInt8):∀x∈Ah l,x.size<=12:=by
 intro x hx;obtain⟨r,_,rfl⟩:=List.mem_map.1 hx;exact Kk r
theorem Mt (l:List UInt8):∀cur,(ER cur l).length<=l.length+1:=by
 induction l with
 |nil=>intro cur;unfold ER;split<;>simp
 |cons c l ih=>
  intro cur;unfold ER;split
  ·have:=ih (cur++[c]);simp;omega
  ·have:=ih []
   simp;split<;>simp<;>omega
theorem Lf (l:List UInt8):(Ah l).length<=l.length+1:=by rw[Ah,List.length_map];exact Mt l []
def sc (l:List ByteArray):List Value:=l.map Value.string
theorem UD {w:World} {B:Nat} {t:TypeId} {z:Nat} {v:Value} {n n':Nat} {xs xs':List Value} (h:w.ownsRow B t z v n xs) (hn:n=n') (hx:xs=xs'):w.ownsRow B t z v n' xs':=by rw[<-hn,<-hx];exact h
theorem KC {w w':World} {B:Nat} {t:TypeId} {z:Nat} {v:Value} {n:Nat} {xs:List Value} (h:w.ownsRow B t z v n xs) (hb:Below w.heap.size w w'):w'.ownsRow B t z v n xs:=by
 refine⟨h.1,?_⟩;rcases h.2 with h2|⟨g,cap,cur,h1,h2,h3,h4⟩
 ·exact .inl h2
 ·exact .inr ⟨g,cap,cur,h1,h2,by rw[hb.block g (Array.getElem?_eq_some_iff.1 h3).1];exact h3,h4⟩
def N7:Value->Nat
 | .string t=>t.size
 |_=>0
set_option maxHeartbeats 2000000
theorem Jp (x:Nat) (w:World):Calls Tryz.prog 139 #[.int .u8 (x:Int)] w fun e w'=>e= .returned (.bool (Im x))/\w'=w:=by
 obtain⟨a1,e1⟩:∃b,decide ((65:Int)<=(x:Int))=b:=⟨_,rfl⟩;obtain⟨a2,e2⟩:∃b,decide ((x:Int)<=90)=b:=⟨_,rfl⟩;obtain⟨a3,e3⟩:∃b,decide ((97:Int)<=(x:Int))=b:=⟨_,rfl⟩;obtain⟨a4,e4⟩:∃b,decide ((x:Int)<=122)=b:=⟨_,rfl⟩;obtain⟨a5,e5⟩:∃b,decide ((48:Int)<=(x:Int))=b:=⟨_,rfl⟩;obtain⟨a6,e6⟩:∃b,decide ((x:Int)<=57)=b:=⟨_,rfl⟩
 have HR:Hid (Im x=(a1 && a2 || a3 && a4 || a5 && a6 || decide ((127:Int)<(x:Int)))):=by
  show _=_;rw[<-e1,<-e2,<-e3,<-e4,<-e5,<-e6,Bool.eq_iff_iff];simp[Im];omega
 cases a1<;>cases a2<;>cases a3<;>cases a4<;>cases a5<;>cases a6<;>first
  |(exfalso;simp only[decide_eq_true_eq,decide_eq_false_iff_not]at e1 e2 e3 e4 e5 e6;clear HR;omega)
  |(go_enter Tryz.func139,Tryz.ntmps139
    go_wp2;go_ret;exact⟨Cb (by rw[HR.out];simp),rfl⟩)
theorem Ty (s:ByteArray) (k:Nat) (hk:k<s.size) (h0:Im s[k].toNat=false) (hz:∀j (_:j<k) (h2:j<s.size),Im s[j].toNat=true):DZ s.data.toList=k:=by
 unfold DZ;rw[List.findIdx_eq (by simpa using hk)];refine⟨?_,fun j hj=> ?_⟩
 ·have:Im (s.data[k]'hk).toNat=false:=h0
  simpa [isL]using this
 ·have:Im (s.data[j]'(by have:s.data.size=s.size:=rfl;omega)).toNat=true:=hz j hj (by omega)
  simpa [isL]using this
set_option maxHeartbeats 400000
theorem MP (s:ByteArray) (w:World) (hs:s.size<=1000000):
  Calls Tryz.prog 91 #[.string s] w fun e w'=>e= .returned (.int .i64 (DZ s.data.toList))/\w'=w:=by
 go_enter Tryz.func91,Tryz.ntmps91;go_wp2
 go_loop [6] (fun i=>∃k:Nat,k<=s.size/\i= .int .i64 k/\Hid (∀j (_:j<k) (h2:j<s.size),Im s[j].toNat=true)) (fun i=>s.size-(intOf i).toNat)
 case atStart=>exact⟨0,Nat.zero_le _,rfl,fun j h=>absurd h (Nat.not_lt_zero _)⟩
 case round=>
  obtain⟨k,hk,rfl,hz⟩:=hrel
  by_cases hlt:k<s.size
  ·cases hb:Im s[k].toNat
   ·go_wp2_with (go_at_call 139;refine(Jp _ _).mono ?_;rintro e w' ⟨rfl,rfl⟩)
    go_ret;exact⟨Gw (by rw[Ty s k hlt hb hz.out]),rfl⟩
   ·go_wp2_with (go_at_call 139;refine(Jp _ _).mono ?_;rintro e w' ⟨rfl,rfl⟩)
    go_round
    case rel=>
     refine⟨k+1,by omega,by go_num,?_⟩;intro j hj h2
     by_cases e:j=k
     ·subst e;exact hb
     ·exact hz.out j (by omega) h2
    case measure=>simp[intOf];omega
  ·go_wp2
   go_ret;exact⟨Gw (by rw[Qg s fun j h2=>hz.out j (by omega) h2]),rfl⟩
theorem Re (s e:ByteArray) (w:World) (hs:s.size<=1000000) (he:e.size<=1000000):
  Calls Tryz.prog 185 #[.string s,.string e] w fun x w'=>x= .returned (.bool (Fh s e))/\w'=w:=by
 by_cases h:e.size<=s.size
 ·have hd:decide ((e.size:Int)<=(s.size:Int))=true:=by simpa using h
  have HR:Hid (Fh s e=((s.extract (s.size-e.size) s.size).toList == e.toList)):=by show _=_;simp[Fh,h]
  go_enter Tryz.func185,Tryz.ntmps185;go_wp2;go_ret;refine⟨Cb ?_,rfl⟩;rw[HR.out]
 ·have hd:decide ((e.size:Int)<=(s.size:Int))=false:=by simp;omega
  have HR:Hid (Fh s e=false):=by show _=_;simp[Fh,h]
  go_enter Tryz.func185,Tryz.ntmps185;go_wp2;go_ret;exact⟨Cb (by rw[HR.out]),rfl⟩
theorem A5 (s e:ByteArray) (w:World) (hs:s.size<=1000000) (he:e.size<=1000000):
  Calls Tryz.prog 140 #[.string s,.string e] w fun x w'=>x= .returned (.bool (Fh s e))/\w'=w:=by
 go_enter Tryz.func140,Tryz.ntmps140
 go_wp2_with (go_at_call 185;refine(Re _ _ _ hs he).mono ?_;rintro e w' ⟨rfl,rfl⟩)
 go_ret;exact⟨rfl,rfl⟩
theorem Ki.text {B n:Nat} {l m:Nat->Nat} {w:World} {cap:Nat} (h:Ki B n n l m w) (t:List UInt8) (ht:t.length=n) (hl:∀j (hj:j<t.length),(t[j]).toNat=l j):
  (convert 199 9 (.slice (some ⟨B,0,none⟩) n cap)).run Tryz.prog w= .ok (.string ⟨t.toArray⟩) w:=by
 subst ht
 exact run_convert_bytes_back (P:=Tryz.prog) w 199 9 5 ⟨B,0,none⟩ cap t Tryz.underlying199 Tryz.underlying5 Tryz.underlying9 (fun j hj=>by
  rw[Addr.add_lit,Nat.zero_add,h.cell j hj,if_pos hj,hl j hj])
theorem QI (s:ByteArray) (w:World):∃cap w',(convert 9 199 (.string s)).run Tryz.prog w= .ok (.slice (some ⟨w.heap.size,0,none⟩) s.size cap) w'/\Below w.heap.size w w'/\w'.heap.size=w.heap.size+1/\
  (∀j (hj:j<s.data.toList.length),w'.cell? ⟨w.heap.size,j,none⟩=some (.int .u8 (s.data.toList[j].toNat:Int)))/\(∀j,j<s.size->w'.frozen? ⟨w.heap.size,j,none⟩=false):=by
 have h:=run_bytes_of_string (P:=Tryz.prog) w 9 199 5 s Tryz.underlying9 Tryz.underlying199 Tryz.underlying5;refine⟨_,_,h,(Below.refl _ w).drew.alloc (Nat.le_refl _) _,?_,?_,?_⟩
 ·simp
 ·intro j hj
  have hn:(w.drew.alloc (.cells (bytesRow s (grownCap w s.size 0 5)) 5 ((bytesRow s (grownCap w s.size 0 5)).size,(bytesRow s (grownCap w s.size 0 5)).size+1))).heap[w.heap.size]? =_:=heap_alloc_new w.drew _;have hj':j<s.data.size:=by simpa using hj
  simp only[World.cell?,hn];have hj2:j<s.size:=hj';simp[bytesRow,Array.getElem?_append,hj2]
 ·intro j hj
  have hn:(w.drew.alloc (.cells (bytesRow s (grownCap w s.size 0 5)) 5 ((bytesRow s (grownCap w s.size 0 5)).size,(bytesRow s (grownCap w s.size 0 5)).size+1))).heap[w.heap.size]? =_:=heap_alloc_new w.drew _
  have hj':j<(bytesRow s (grownCap w s.size 0 5)).size:=by
   have e:s.data.size=s.size:=rfl;simp[bytesRow];omega
  simp only[World.frozen?,hn];simp;omega
set_option maxHeartbeats 1000000
theorem P5 (s:ByteArray) (w:World) (hs:s.size<=1000000):
  Calls Tryz.prog 93 #[.string s] w fun e w'=>e= .returned (.string (IM s))/\Below w.heap.size w w':=by
 obtain⟨cap,w1,hcv,hb1,hz1,hc1,hf1⟩:=QI s w;have h0:Ki w.heap.size s.size 0 (fun j=>G5 (bt s j)) (bt s) w1:=⟨fun j hj=>by rw[hc1 j (by simpa using hj)];simp[Um s j hj];rfl,hf1⟩;clear hc1 hf1 hz1;go_enter Tryz.func93,Tryz.ntmps93;go_wp2;go_loopw [10] (fun i wr=>∃k:Nat,k<=s.size/\i= .int .i64 k/\Hid (Ki w.heap.size s.size k (fun j=>G5 (bt s j)) (bt s) wr/\Below w.heap.size w wr)) (fun i _=>s.size-(intOf i).toNat)
 case atStart=>exact⟨0,Nat.zero_le _,rfl,h0,hb1⟩
 case round=>
  clear h0 hb1 hcv;obtain⟨k,hk,rfl,hz⟩:=hrel
  by_cases hlt:k<s.size
  ·have hc:=hz.out.1.cell k hlt
   have hf:=hz.out.1.free k hlt;simp only[Nat.lt_irrefl,if_false]at hc;have hbt:=VL s k;obtain⟨x,hx⟩:∃x,bt s k=x:=⟨_,rfl⟩;rw[hx]at hc hbt;have HX:Hid (bt s k=x):=hx;clear hx;obtain⟨a1,e1⟩:∃b,decide ((65:Int)<=(x:Int))=b:=⟨_,rfl⟩;obtain⟨a2,e2⟩:∃b,decide ((x:Int)<=90)=b:=⟨_,rfl⟩;have hi:(k:Int)<(s.size:Int):=by omega
   cases a1
   ·go_wp2
    go_roundw
    case rel=>
     refine⟨k+1,by omega,by go_num,hz.out.1.keep hlt ?_,hz.out.2⟩;show G5 (bt s k)=_;simp only[decide_eq_false_iff_not]at e1;rw[HX.out,G5,if_neg (by omega)]
    case measure=>simp[intOf];omega
   ·cases a2
    ·go_wp2
     go_roundw
     case rel=>
      refine⟨k+1,by omega,by go_num,hz.out.1.keep hlt ?_,hz.out.2⟩;show G5 (bt s k)=_;simp only[decide_eq_false_iff_not]at e2;rw[HX.out,G5,if_neg (by omega)]
     case measure=>simp[intOf];omega
    ·simp only[decide_eq_true_eq]at e1 e2
     go_wp2;go_roundw
     case rel=>
      refine⟨k+1,by omega,by go_num,hz.out.1.set hlt _ ?_,hz.out.2.setCell (p:=⟨_,k,none⟩) (Nat.le_refl _) _⟩;show _=((G5 (bt s k):Nat):Int);rw[HX.out,G5,if_pos (by omega)];omega
     case measure=>simp[intOf];omega
  ·obtain rfl:k=s.size:=by omega
   have ht:=hz.out.1.text (cap:=cap) (Ca s.data.toList) (Kv s) (N8 s);go_wp2;go_ret;exact⟨rfl,hz.out.2⟩
end
section
open Go.Shelf Go.RowKit
theorem TP (s:ByteArray) (w:World) (hlim:s.size<=281474976710656):
  Calls Tryz.prog 171 #[.string s] w fun e w'=>e= .returned (.string s)/\Below w.heap.size w w':=Any.stringslite_Clone Tryz.laysM316 s w hlim
theorem BK (s:ByteArray) (w:World) (hlim:s.size<=281474976710656):
  Calls Tryz.prog 118 #[.string s] w fun e w'=>e= .returned (.string s)/\Below w.heap.size w w':=by
 go_enter Tryz.func118,Tryz.ntmps118
 go_wp2_with (go_at_call 171;refine(TP _ _ hlim).mono ?_;rintro e w' ⟨rfl,hb⟩)
 go_ret;exact⟨rfl,hb⟩
end
section
open Go.RowKit
def Df (w:World):Prop:=w.cell? ⟨0,0,none⟩=some (.string ⟨#[115,115,101,115]⟩)/\w.cell? ⟨0,1,none⟩=some (.string ⟨#[115,115]⟩)/\w.cell? ⟨0,2,none⟩=some (.string ⟨#[105,101,115]⟩)/\w.cell? ⟨0,3,none⟩=some (.string ⟨#[121]⟩)/\w.cell? ⟨0,4,none⟩=some (.string ⟨#[115,115]⟩)/\w.cell? ⟨0,5,none⟩=some (.string ⟨#[115,115]⟩)/\w.cell? ⟨0,6,none⟩=some (.string ⟨#[105,110,103]⟩)/\w.cell? ⟨0,7,none⟩=some (.string ⟨#[]⟩)/\w.cell? ⟨0,8,none⟩=some (.string ⟨#[101,100]⟩)/\w.cell? ⟨0,9,none⟩=some (.string ⟨#[]⟩)/\w.cell? ⟨0,10,none⟩=some (.string ⟨#[101,115]⟩)/\w.cell? ⟨0,11,none⟩=some (.string ⟨#[101]⟩)/\w.cell? ⟨0,12,none⟩=some (.string ⟨#[115]⟩)/\w.cell? ⟨0,13,none⟩=some (.string ⟨#[]⟩)
theorem Df.below {w w':World} (h:Df w) (hb:Below w.heap.size w w'):Df w':=by
 have h0:0<w.heap.size:=World.block_lt_of_cell? w _ h.1;unfold Df at h ⊢;have e:∀o,w'.cell? ⟨0,o,none⟩=w.cell? ⟨0,o,none⟩:=fun o=>hb.cell (p:=⟨0,o,none⟩) h0;simp only[e];exact h
theorem Wc (W:World):(Instr.index 221 (.agg #[.string ⟨#[115,115,101,115]⟩,.string ⟨#[115,115]⟩,.string ⟨#[105,101,115]⟩,.string ⟨#[121]⟩,.string ⟨#[115,115]⟩,.string ⟨#[115,115]⟩,.string ⟨#[105,110,103]⟩,.string ⟨#[]⟩,.string ⟨#[101,100]⟩,.string ⟨#[]⟩,.string ⟨#[101,115]⟩,.string ⟨#[101]⟩,.string ⟨#[115]⟩,.string ⟨#[]⟩]) (.int .i64 0)).run Tryz.prog W= .ok (.agg #[.string ⟨#[115,115,101,115]⟩,.string ⟨#[115,115]⟩]) W:=by kernel_rfl
theorem Wb (W:World):(Instr.index 221 (.agg #[.string ⟨#[115,115,101,115]⟩,.string ⟨#[115,115]⟩,.string ⟨#[105,101,115]⟩,.string ⟨#[121]⟩,.string ⟨#[115,115]⟩,.string ⟨#[115,115]⟩,.string ⟨#[105,110,103]⟩,.string ⟨#[]⟩,.string ⟨#[101,100]⟩,.string ⟨#[]⟩,.string ⟨#[101,115]⟩,.string ⟨#[101]⟩,.string ⟨#[115]⟩,.string ⟨#[]⟩]) (.int .i64 1)).run Tryz.prog W= .ok (.agg #[.string ⟨#[105,101,115]⟩,.string ⟨#[121]⟩]) W:=by kernel_rfl
theorem Wa (W:World):(Instr.index 221 (.agg #[.string ⟨#[115,115,101,115]⟩,.string ⟨#[115,115]⟩,.string ⟨#[105,101,115]⟩,.string ⟨#[121]⟩,.string ⟨#[115,115]⟩,.string ⟨#[115,115]⟩,.string ⟨#[105,110,103]⟩,.string ⟨#[]⟩,.string ⟨#[101,100]⟩,.string ⟨#[]⟩,.string ⟨#[101,115]⟩,.string ⟨#[101]⟩,.string ⟨#[115]⟩,.string ⟨#[]⟩]) (.int .i64 2)).run Tryz.prog W= .ok (.agg #[.string ⟨#[115,115]⟩,.string ⟨#[115,115]⟩]) W:=by kernel_rfl
theorem VZ (W:World):(Instr.index 221 (.agg #[.string ⟨#[115,115,101,115]⟩,.string ⟨#[115,115]⟩,.string ⟨#[105,101,115]⟩,.string ⟨#[121]⟩,.string ⟨#[115,115]⟩,.string ⟨#[115,115]⟩,.string ⟨#[105,110,103]⟩,.string ⟨#[]⟩,.string ⟨#[101,100]⟩,.string ⟨#[]⟩,.string ⟨#[101,115]⟩,.string ⟨#[101]⟩,.string ⟨#[115]⟩,.string ⟨#[]⟩]) (.int .i64 3)).run Tryz.prog W= .ok (.agg #[.string ⟨#[105,110,103]⟩,.string ⟨#[]⟩]) W:=by kernel_rfl
theorem VY (W:World):(Instr.index 221 (.agg #[.string ⟨#[115,115,101,115]⟩,.string ⟨#[115,115]⟩,.string ⟨#[105,101,115]⟩,.string ⟨#[121]⟩,.string ⟨#[115,115]⟩,.string ⟨#[115,115]⟩,.string ⟨#[105,110,103]⟩,.string ⟨#[]⟩,.string ⟨#[101,100]⟩,.string ⟨#[]⟩,.string ⟨#[101,115]⟩,.string ⟨#[101]⟩,.string ⟨#[115]⟩,.string ⟨#[]⟩]) (.int .i64 4)).run Tryz.prog W= .ok (.agg #[.string ⟨#[101,100]⟩,.string ⟨#[]⟩]) W:=by kernel_rfl
theorem VX (W:World):(Instr.index 221 (.agg #[.string ⟨#[115,115,101,115]⟩,.string ⟨#[115,115]⟩,.string ⟨#[105,101,115]⟩,.string ⟨#[121]⟩,.string ⟨#[115,115]⟩,.string ⟨#[115,115]⟩,.string ⟨#[105,110,103]⟩,.string ⟨#[]⟩,.string ⟨#[101,100]⟩,.string ⟨#[]⟩,.string ⟨#[101,115]⟩,.string ⟨#[101]⟩,.string ⟨#[115]⟩,.string ⟨#[]⟩]) (.int .i64 5)).run Tryz.prog W= .ok (.agg #[.string ⟨#[101,115]⟩,.string ⟨#[101]⟩]) W:=by kernel_rfl
theorem VW (W:World):(Instr.index 221 (.agg #[.string ⟨#[115,115,101,115]⟩,.string ⟨#[115,115]⟩,.string ⟨#[105,101,115]⟩,.string ⟨#[121]⟩,.string ⟨#[115,115]⟩,.string ⟨#[115,115]⟩,.string ⟨#[105,110,103]⟩,.string ⟨#[]⟩,.string ⟨#[101,100]⟩,.string ⟨#[]⟩,.string ⟨#[101,115]⟩,.string ⟨#[101]⟩,.string ⟨#[115]⟩,.string ⟨#[]⟩]) (.int .i64 6)).run Tryz.prog W= .ok (.agg #[.string ⟨#[115]⟩,.string ⟨#[]⟩]) W:=by kernel_rfl
theorem Rf (s:ByteArray) (w:World) (hs:s.size<=1000000) (he:Df w):
  Calls Tryz.prog 92 #[.string s] w fun e w'=>e= .returned (.string (IJ s))/\Below w.heap.size w w':=by
 obtain⟨q0,q1,q2,q3,q4,q5,q6,q7,q8,q9,q10,q11,q12,q13⟩:=he;have HR:Hid (AQ (CT.drop 0) s=IJ s):=rfl;generalize IJ s=R at *;go_enter Tryz.func92,Tryz.ntmps92;go_wp2;clear q0 q1 q2 q3 q4 q5 q6 q7 q8 q9 q10 q11 q12 q13;go_loopw [0,7] (fun x i wr=>∃k:Nat,k<=7/\x= .string s/\i= .int .i64 k/\Hid (Below w.heap.size w wr/\AQ (CT.drop k) s=R)) (fun _ i _=>7-(intOf i).toNat)
 case atStart=>exact⟨0,Nat.zero_le _,rfl,rfl,Below.refl _ _,HR.out⟩
 case round=>
  clear HR;obtain⟨k,hk,rfl,rfl,hz⟩:=hrel;have hk7:k=0\/k=1\/k=2\/k=3\/k=4\/k=5\/k=6\/k=7:=by omega
  rcases hk7 with rfl|rfl|rfl|rfl|rfl|rfl|rfl|rfl
  ·have hix:=Wc wr
   cases hb:Fh s ⟨#[115,115,101,115]⟩
   ·go_wp2_with (go_at_call 140;refine(A5 _ _ _ hs (by decide)).mono ?_;rintro e w' ⟨rfl,rfl⟩)
    go_roundw
    case rel=>exact⟨1,by omega,rfl,by go_num,by have:=hz.out.1.size;exact hz.out.1.alloc (by omega) _,(E8 hb).symm.trans hz.out.2⟩
    case measure=>simp[intOf]
   ·by_cases h3:4+3<=s.size
    ·have HS:Hid (s.extract 0 (s.size-4)++⟨#[115,115]⟩=R):=(DB (r:=⟨#[115,115]⟩) (t:=CT.drop 1) hb h3).symm.trans hz.out.2
     have h3':(3:Int)<=(s.size:Int)-4:=by omega
     go_wp2_with (go_at_call 140;refine(A5 _ _ _ hs (by decide)).mono ?_;rintro e w' ⟨rfl,rfl⟩)
     go_region
     have HL:Hid (R.size<=281474976710656):=by show _<=_;rw[<-HS.out];have e:(⟨#[115,115]⟩:ByteArray).size=2:=rfl;simp only[ByteArray.size_append,ByteArray.size_extract,e];omega
     go_wp2_with (go_at_call 118;rw[HS.out];refine(BK _ _ HL.out).mono ?_;rintro e w' ⟨rfl,hb⟩)
     go_ret;exact⟨rfl,by have:=hz.out.1.size;exact((hz.out.1.alloc this _).drew).trans (hb.mono (by simp;omega))⟩
    ·have HS:Hid (s=R):=(Cx (r:=⟨#[115,115]⟩) (t:=CT.drop 1) hb h3).symm.trans hz.out.2
     have h3':(s.size:Int)-4<3:=by omega
     go_wp2_with (first|(go_at_call 140;refine(A5 _ _ _ hs (by decide)).mono ?_;rintro e w' ⟨rfl,rfl⟩)|(go_at_call 118;refine(BK _ _ (by omega)).mono ?_;rintro e w' ⟨rfl,hb⟩))
     go_ret;rw[HS.out];exact⟨rfl,by have:=hz.out.1.size;exact(hz.out.1.alloc (by omega) _).trans (hb.mono (by simp;omega))⟩
  ·have hix:=Wb wr
   cases hb:Fh s ⟨#[105,101,115]⟩
   ·go_wp2_with (go_at_call 140;refine(A5 _ _ _ hs (by decide)).mono ?_;rintro e w' ⟨rfl,rfl⟩)
    go_roundw
    case rel=>exact⟨2,by omega,rfl,by go_num,by have:=hz.out.1.size;exact hz.out.1.alloc (by omega) _,(E8 hb).symm.trans hz.out.2⟩
    case measure=>simp[intOf]
   ·by_cases h3:3+3<=s.size
    ·have HS:Hid (s.extract 0 (s.size-3)++⟨#[121]⟩=R):=(DB (r:=⟨#[121]⟩) (t:=CT.drop 2) hb h3).symm.trans hz.out.2
     have h3':(3:Int)<=(s.size:Int)-3:=by omega
     go_wp2_with (go_at_call 140;refine(A5 _ _ _ hs (by decide)).mono ?_;rintro e w' ⟨rfl,rfl⟩)
     go_region
     have HL:Hid (R.size<=281474976710656):=by show _<=_;rw[<-HS.out];have e:(⟨#[121]⟩:ByteArray).size=1:=rfl;simp only[ByteArray.size_append,ByteArray.size_extract,e];omega
     go_wp2_with (go_at_call 118;rw[HS.out];refine(BK _ _ HL.out).mono ?_;rintro e w' ⟨rfl,hb⟩)
     go_ret;exact⟨rfl,by have:=hz.out.1.size;exact((hz.out.1.alloc this _).drew).trans (hb.mono (by simp;omega))⟩
    ·have HS:Hid (s=R):=(Cx (r:=⟨#[121]⟩) (t:=CT.drop 2) hb h3).symm.trans hz.out.2
     have h3':(s.size:Int)-3<3:=by omega
     go_wp2_with (first|(go_at_call 140;refine(A5 _ _ _ hs (by decide)).mono ?_;rintro e w' ⟨rfl,rfl⟩)|(go_at_call 118;refine(BK _ _ (by omega)).mono ?_;rintro e w' ⟨rfl,hb⟩))
     go_ret;rw[HS.out];exact⟨rfl,by have:=hz.out.1.size;exact(hz.out.1.alloc (by omega) _).trans (hb.mono (by simp;omega))⟩
  ·have hix:=Wa wr
   cases hb:Fh s ⟨#[115,115]⟩
   ·go_wp2_with (go_at_call 140;refine(A5 _ _ _ hs (by decide)).mono ?_;rintro e w' ⟨rfl,rfl⟩)
    go_roundw
    case rel=>exact⟨3,by omega,rfl,by go_num,by have:=hz.out.1.size;exact hz.out.1.alloc (by omega) _,(E8 hb).symm.trans hz.out.2⟩
    case measure=>simp[intOf]
   ·by_cases h3:2+3<=s.size
    ·have HS:Hid (s.extract 0 (s.size-2)++⟨#[115,115]⟩=R):=(DB (r:=⟨#[115,115]⟩) (t:=CT.drop 3) hb h3).symm.trans hz.out.2
     have h3':(3:Int)<=(s.size:Int)-2:=by omega
     go_wp2_with (go_at_call 140;refine(A5 _ _ _ hs (by decide)).mono ?_;rintro e w' ⟨rfl,rfl⟩)
     go_region
     have HL:Hid (R.size<=281474976710656):=by show _<=_;rw[<-HS.out];have e:(⟨#[115,115]⟩:ByteArray).size=2:=rfl;simp only[ByteArray.size_append,ByteArray.size_extract,e];omega
     go_wp2_with (go_at_call 118;rw[HS.out];refine(BK _ _ HL.out).mono ?_;rintro e w' ⟨rfl,hb⟩)
     go_ret;exact⟨rfl,by have:=hz.out.1.size;exact((hz.out.1.alloc this _).drew).trans (hb.mono (by simp;omega))⟩
    ·have HS:Hid (s=R):=(Cx (r:=⟨#[115,115]⟩) (t:=CT.drop 3) hb h3).symm.trans hz.out.2
     have h3':(s.size:Int)-2<3:=by omega
     go_wp2_with (first|(go_at_call 140;refine(A5 _ _ _ hs (by decide)).mono ?_;rintro e w' ⟨rfl,rfl⟩)|(go_at_call 118;refine(BK _ _ (by omega)).mono ?_;rintro e w' ⟨rfl,hb⟩))
     go_ret;rw[HS.out];exact⟨rfl,by have:=hz.out.1.size;exact(hz.out.1.alloc (by omega) _).trans (hb.mono (by simp;omega))⟩
  ·have hix:=VZ wr
   cases hb:Fh s ⟨#[105,110,103]⟩
   ·go_wp2_with (go_at_call 140;refine(A5 _ _ _ hs (by decide)).mono ?_;rintro e w' ⟨rfl,rfl⟩)
    go_roundw
    case rel=>exact⟨4,by omega,rfl,by go_num,by have:=hz.out.1.size;exact hz.out.1.alloc (by omega) _,(E8 hb).symm.trans hz.out.2⟩
    case measure=>simp[intOf]
   ·by_cases h3:3+3<=s.size
    ·have HS:Hid (s.extract 0 (s.size-3)++⟨#[]⟩=R):=(DB (r:=⟨#[]⟩) (t:=CT.drop 4) hb h3).symm.trans hz.out.2
     have h3':(3:Int)<=(s.size:Int)-3:=by omega
     go_wp2_with (go_at_call 140;refine(A5 _ _ _ hs (by decide)).mono ?_;rintro e w' ⟨rfl,rfl⟩)
     go_region
     have HL:Hid (R.size<=281474976710656):=by show _<=_;rw[<-HS.out];have e:(⟨#[]⟩:ByteArray).size=0:=rfl;simp only[ByteArray.size_append,ByteArray.size_extract,e];omega
     go_wp2_with (go_at_call 118;rw[HS.out];refine(BK _ _ HL.out).mono ?_;rintro e w' ⟨rfl,hb⟩)
     go_ret;exact⟨rfl,by have:=hz.out.1.size;exact((hz.out.1.alloc this _).drew).trans (hb.mono (by simp;omega))⟩
    ·have HS:Hid (s=R):=(Cx (r:=⟨#[]⟩) (t:=CT.drop 4) hb h3).symm.trans hz.out.2
     have h3':(s.size:Int)-3<3:=by omega
     go_wp2_with (first|(go_at_call 140;refine(A5 _ _ _ hs (by decide)).mono ?_;rintro e w' ⟨rfl,rfl⟩)|(go_at_call 118;refine(BK _ _ (by omega)).mono ?_;rintro e w' ⟨rfl,hb⟩))
     go_ret;rw[HS.out];exact⟨rfl,by have:=hz.out.1.size;exact(hz.out.1.alloc (by omega) _).trans (hb.mono (by simp;omega))⟩
  ·have hix:=VY wr
   cases hb:Fh s ⟨#[101,100]⟩
   ·go_wp2_with (go_at_call 140;refine(A5 _ _ _ hs (by decide)).mono ?_;rintro e w' ⟨rfl,rfl⟩)
    go_roundw
    case rel=>exact⟨5,by omega,rfl,by go_num,by have:=hz.out.1.size;exact hz.out.1.alloc (by omega) _,(E8 hb).symm.trans hz.out.2⟩
    case measure=>simp[intOf]
   ·by_cases h3:2+3<=s.size
    ·have HS:Hid (s.extract 0 (s.size-2)++⟨#[]⟩=R):=(DB (r:=⟨#[]⟩) (t:=CT.drop 5) hb h3).symm.trans hz.out.2
     have h3':(3:Int)<=(s.size:Int)-2:=by omega
     go_wp2_with (go_at_call 140;refine(A5 _ _ _ hs (by decide)).mono ?_;rintro e w' ⟨rfl,rfl⟩)
     go_region
     have HL:Hid (R.size<=281474976710656):=by show _<=_;rw[<-HS.out];have e:(⟨#[]⟩:ByteArray).size=0:=rfl;simp only[ByteArray.size_append,ByteArray.size_extract,e];omega
     go_wp2_with (go_at_call 118;rw[HS.out];refine(BK _ _ HL.out).mono ?_;rintro e w' ⟨rfl,hb⟩)
     go_ret;exact⟨rfl,by have:=hz.out.1.size;exact((hz.out.1.alloc this _).drew).trans (hb.mono (by simp;omega))⟩
    ·have HS:Hid (s=R):=(Cx (r:=⟨#[]⟩) (t:=CT.drop 5) hb h3).symm.trans hz.out.2
     have h3':(s.size:Int)-2<3:=by omega
     go_wp2_with (first|(go_at_call 140;refine(A5 _ _ _ hs (by decide)).mono ?_;rintro e w' ⟨rfl,rfl⟩)|(go_at_call 118;refine(BK _ _ (by omega)).mono ?_;rintro e w' ⟨rfl,hb⟩))
     go_ret;rw[HS.out];exact⟨rfl,by have:=hz.out.1.size;exact(hz.out.1.alloc (by omega) _).trans (hb.mono (by simp;omega))⟩
  ·have hix:=VX wr
   cases hb:Fh s ⟨#[101,115]⟩
   ·go_wp2_with (go_at_call 140;refine(A5 _ _ _ hs (by decide)).mono ?_;rintro e w' ⟨rfl,rfl⟩)
    go_roundw
    case rel=>exact⟨6,by omega,rfl,by go_num,by have:=hz.out.1.size;exact hz.out.1.alloc (by omega) _,(E8 hb).symm.trans hz.out.2⟩
    case measure=>simp[intOf]
   ·by_cases h3:2+3<=s.size
    ·have HS:Hid (s.extract 0 (s.size-2)++⟨#[101]⟩=R):=(DB (r:=⟨#[101]⟩) (t:=CT.drop 6) hb h3).symm.trans hz.out.2
     have h3':(3:Int)<=(s.size:Int)-2:=by omega
     go_wp2_with (go_at_call 140;refine(A5 _ _ _ hs (by decide)).mono ?_;rintro e w' ⟨rfl,rfl⟩)
     go_region
     have HL:Hid (R.size<=281474976710656):=by show _<=_;rw[<-HS.out];have e:(⟨#[101]⟩:ByteArray).size=1:=rfl;simp only[ByteArray.size_append,ByteArray.size_extract,e];omega
     go_wp2_with (go_at_call 118;rw[HS.out];refine(BK _ _ HL.out).mono ?_;rintro e w' ⟨rfl,hb⟩)
     go_ret;exact⟨rfl,by have:=hz.out.1.size;exact((hz.out.1.alloc this _).drew).trans (hb.mono (by simp;omega))⟩
    ·have HS:Hid (s=R):=(Cx (r:=⟨#[101]⟩) (t:=CT.drop 6) hb h3).symm.trans hz.out.2
     have h3':(s.size:Int)-2<3:=by omega
     go_wp2_with (first|(go_at_call 140;refine(A5 _ _ _ hs (by decide)).mono ?_;rintro e w' ⟨rfl,rfl⟩)|(go_at_call 118;refine(BK _ _ (by omega)).mono ?_;rintro e w' ⟨rfl,hb⟩))
     go_ret;rw[HS.out];exact⟨rfl,by have:=hz.out.1.size;exact(hz.out.1.alloc (by omega) _).trans (hb.mono (by simp;omega))⟩
  ·have hix:=VW wr
   cases hb:Fh s ⟨#[115]⟩
   ·go_wp2_with (go_at_call 140;refine(A5 _ _ _ hs (by decide)).mono ?_;rintro e w' ⟨rfl,rfl⟩)
    go_roundw
    case rel=>exact⟨7,by omega,rfl,by go_num,by have:=hz.out.1.size;exact hz.out.1.alloc (by omega) _,(E8 hb).symm.trans hz.out.2⟩
    case measure=>simp[intOf]
   ·by_cases h3:1+3<=s.size
    ·have HS:Hid (s.extract 0 (s.size-1)++⟨#[]⟩=R):=(DB (r:=⟨#[]⟩) (t:=CT.drop 7) hb h3).symm.trans hz.out.2
     have h3':(3:Int)<=(s.size:Int)-1:=by omega
     go_wp2_with (go_at_call 140;refine(A5 _ _ _ hs (by decide)).mono ?_;rintro e w' ⟨rfl,rfl⟩)
     go_region
     have HL:Hid (R.size<=281474976710656):=by show _<=_;rw[<-HS.out];have e:(⟨#[]⟩:ByteArray).size=0:=rfl;simp only[ByteArray.size_append,ByteArray.size_extract,e];omega
     go_wp2_with (go_at_call 118;rw[HS.out];refine(BK _ _ HL.out).mono ?_;rintro e w' ⟨rfl,hb⟩)
     go_ret;exact⟨rfl,by have:=hz.out.1.size;exact((hz.out.1.alloc this _).drew).trans (hb.mono (by simp;omega))⟩
    ·have HS:Hid (s=R):=(Cx (r:=⟨#[]⟩) (t:=CT.drop 7) hb h3).symm.trans hz.out.2
     have h3':(s.size:Int)-1<3:=by omega
     go_wp2_with (first|(go_at_call 140;refine(A5 _ _ _ hs (by decide)).mono ?_;rintro e w' ⟨rfl,rfl⟩)|(go_at_call 118;refine(BK _ _ (by omega)).mono ?_;rintro e w' ⟨rfl,hb⟩))
     go_ret;rw[HS.out];exact⟨rfl,by have:=hz.out.1.size;exact(hz.out.1.alloc (by omega) _).trans (hb.mono (by simp;omega))⟩
  ·have HS:Hid (s=R):=hz.out.2
   go_wp2_with (go_at_call 118;refine(BK _ _ (by omega)).mono ?_;rintro e w' ⟨rfl,hb⟩)
   go_ret;rw[HS.out];exact⟨rfl,hz.out.1.trans (hb.mono hz.out.1.size)⟩
theorem Jo (s:ByteArray) (n:Nat) (hn:DZ s.data.toList=n) (w:World) (hs:s.size<=1000000):
  Calls Tryz.prog 91 #[.string s] w fun e w'=>e= .returned (.int .i64 n)/\w'=w:=by
 rw[<-hn];exact MP s w hs
theorem Ks (s:ByteArray) (w:World) (hs:s.size<=900000) (he:Df w):
  Calls Tryz.prog 38 #[.string s] w fun e w'=>∃v,e= .returned v/\w'.ownsRow w.heap.size 9 1 v (Ah s.data.toList).length (sc (Ah s.data.toList))/\Below w.heap.size w w':=by
 obtain⟨i0,hi,hz0,hz1,hz2⟩:=MQ;have HW:Hid ((Ah s.data.toList).length<=900001/\Df w):=⟨by have:=Lf s.data.toList;rw[LW]at this;omega,he⟩;clear he;generalize hWs:Ah s.data.toList=W at *;have HS:Hid (Ah s.data.toList=W):=hWs;clear hWs;go_enter Tryz.func38,Tryz.ntmps38;go_wp2;go_loopw [0,3] (fun x v wr=>∃(t:ByteArray) (ws:List ByteArray),t.size<=s.size/\x= .string t/\Hid (ws++Ah t.data.toList=W)/\Hid (wr.ownsRow w.heap.size 9 1 v ws.length (sc ws)/\Below w.heap.size w wr)) (fun x _ _=>N7 x)
 case atStart=>exact⟨s,[],Nat.le_refl _,rfl,HS.out,World.ownsRow_nil w _ 9 1,Below.refl _ _⟩
 case round=>
  clear HS;obtain⟨t,ws,hts,rfl,hws,hown⟩:=hrel
  by_cases h0:0<t.size
  ·obtain⟨n,hn⟩:∃n,DZ t.data.toList=n:=⟨_,rfl⟩
   have hle:=Tv t.data.toList;rw[hn,LW]at hle;have HN:Hid (DZ t.data.toList=n):=hn
   have HD:Hid (Ah (t.extract (min (n+1) t.size) t.size).data.toList=Ah (t.data.toList.drop (n+1))):=by
    show _=_;rw[JI,List.take_of_length_le (by rw[LW];exact Nat.le_refl _)];have:=Sl t.data.toList (n+1);rw[LW]at this;rw[this]
   clear hn
   by_cases hn0:n=0
   ·subst hn0
    have HX:Hid (ws++Ah (t.extract (min (0+1) t.size) t.size).data.toList=W):=by
     show _=_;rw[HD.out,<-hws.out,I9 t.data.toList,HN.out];simp
    clear HD
    go_wp2_with (go_at_call 91;refine(Jo _ 0 HN.out _ (by omega)).mono ?_;rintro e w' ⟨rfl,rfl⟩)
    go_roundw
    case rel=>
     have e:(min (1:Int) (t.size:Int)).toNat=min (0+1) t.size:=by omega
     exact⟨_,ws,by simp;omega,rfl,by rw[e];exact HX.out,hown.out⟩
    case measure=>simp[N7];omega
   ·have HX:Hid ((ws++[ET (t.data.toList.take n)])++Ah (t.extract (min (n+1) t.size) t.size).data.toList=W):=by
     show _=_;rw[HD.out,<-hws.out,I9 t.data.toList,HN.out,if_neg hn0];simp
    have HL:Hid (ws.length<=900001):=by
     show _<=_;have h1:=HW.out.1;rw[<-hws.out]at h1;simp at h1;omega
    clear HD;have hn1:(0:Int)<(n:Int):=by omega
    have HQ:Hid (IJ (IM (t.extract 0 (min (n:Int) 12).toNat))=ET (t.data.toList.take n)):=by
     show _=_;rw[show(min (n:Int) 12).toNat=min n 12 by omega];exact Pq t n
    have HB:Hid (Below w.heap.size w wr):=hown.out.2;have HO:Hid (wr.ownsRow w.heap.size 9 1 u3 ws.length (sc ws)):=hown.out.1;clear hown;go_wp2_with fail;refine(Jo _ n HN.out _ (by omega)).mono ?_;rintro _ wr ⟨rfl,rfl⟩;go_wp2_with fail;refine(P5 _ _ (by simp;omega)).mono ?_;rintro _ w1 ⟨rfl,hb1⟩;have HE:Hid (Df w1):=(HW.out.2.below HB.out).below hb1;go_wp2_with fail;refine(Rf _ _ (by rw[Mo];simp;omega) HE.out).mono ?_;rintro _ w2 ⟨rfl,hb2⟩;rw[HQ.out];have HB2:Hid (Below w.heap.size w w2):=(HB.out.trans (hb1.mono HB.out.size)).trans (hb2.mono (Nat.le_trans HB.out.size hb1.size));have HO2:Hid (w2.ownsRow w.heap.size 9 1 u3 ws.length (sc ws)):=KC (KC HO.out hb1) hb2;clear HB HO hb1 hb2 HE HQ;obtain⟨x,hx⟩:∃x,ET (t.data.toList.take n)=x:=⟨_,rfl⟩;rw[hx];have HX:Hid _:=HX.out;rw[hx]at HX;clear hx
    go_wp2_with (at_builtin;refine wpList_append_own _ rfl _ _ 85 rfl w.heap.size 9 i0 (.string ⟨#[]⟩) 1 16 Tryz.underlying85 hi hz0 hz1 hz2 rfl (by decide) _ _ _ rfl (HO2.out.alloc _) ⟨w2.heap.size,0,none⟩ 1 1 [.string x] rfl rfl ?c1 ?c2 ?c3 ?c4 ?c5 ?_)
    case c1=>exact cell_one_new _ _ _
    case c2=>intro y hy;simp at hy;subst hy;rfl
    case c3=>have:=HL.out;simp[maxLen];omega
    case c4=>have:=HL.out;omega
    case c5=>have:=HB2.out.size;simp;omega
    ·intro v' w3 hown' hgrow _
     have hbl':=HB2.out.size;have HB3:Hid (Below w.heap.size w w3):=(HB2.out.alloc (by omega) _).grown hgrow (by simp;omega) (fun g hg=>(HO2.out.lt g hg).1);have HO3:Hid (w3.ownsRow w.heap.size 9 1 v' (ws++[x]).length (sc (ws++[x]))):=UD hown' (by simp) (by simp[sc]);clear HB2 HO2 hown' hgrow hbl';go_wp2;go_roundw
     case rel=>
      have e:(min ((n:Int)+1) (t.size:Int)).toNat=min (n+1) t.size:=by omega
      exact⟨_,ws++[x],by simp;omega,rfl,by rw[e];exact HX.out,HO3.out,HB3.out⟩
     case measure=>simp[N7];omega
  ·go_wp2
   go_ret
   obtain rfl:t=⟨#[]⟩:=by
    cases t with
    |mk d=>
     have:d.size=0:=Nat.eq_zero_of_not_pos h0;simp[Array.size_eq_zero_iff.1 this]
   have e:ws=W:=by have:=hws.out;simpa [Ah,ER]using this
   subst e;exact⟨_,rfl,hown.out.1,hown.out.2⟩
end
end Go.Proofs.YtihnldkgeelehaaGreatDoor
