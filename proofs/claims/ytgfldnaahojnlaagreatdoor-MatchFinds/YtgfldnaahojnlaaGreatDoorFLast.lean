/- In which rows a query is found, and how often, is the document's: for every list of texts and every text the function MatchFinds of the package concordancelaw returns true, and leaves the list and the text as they were. The package variables errors.errorType, word.ends, utf8.first and utf8.acceptRanges read as they are laid (tied); internal/bytealg.MaxLen is any number. The seat is set up under MEM=40000 GROUP=1 (two types of the pager want the lid raised); this text and those below it build under the lid that the others have. -/
import Derived.Test.YtgfldnaahojnlaaGreatDoorF41
import Derived.Test.YtgfldnaahojnlaaGreatDoorF43
import Derived.Test.YtgfldnaahojnlaaGreatDoorF50
set_option maxRecDepth 100000
set_option maxHeartbeats 4000000
namespace Go.Proofs.YtgfldnaahojnlaaGreatDoor
section
open Go.RowKit
def Yo (w:World) (a:Option Addr) (len:Nat) (xs:List Int):Prop:=
 len=xs.length/\xs.length<=1000000/\(xs=[]\/∃b off,a=some ⟨b,off,none⟩/\b<w.heap.size/\∀i (h:i<xs.length),w.cell? ⟨b,off+i,none⟩=some (.int .i64 xs[i]))
theorem QI (xs:List Int) (i:Nat) (h:i<xs.length):(icc xs)[i]? =some (.int .i64 xs[i]):=by simp[icc,h]
theorem Np {w:World} {B:Nat} {v:Value} {xs:List Int} (h:w.ownsRow B 3 1 v xs.length (icc xs)) (hl:xs.length<=1000000):∃a cap,v= .slice a xs.length cap/\Yo w a xs.length xs:=by
 rcases h.2 with⟨rfl,h0⟩|⟨g,cap,cur,rfl,_,hg,_⟩
 ·have:xs=[]:=List.length_eq_zero_iff.1 h0
  subst this;exact⟨none,0,rfl,⟨rfl,hl,.inl rfl⟩⟩
 ·refine⟨some ⟨g,0,none⟩,cap,rfl,⟨rfl,hl,.inr ⟨g,0,rfl,(Array.getElem?_eq_some_iff.1 hg).1,fun i hi=> ?_⟩⟩⟩
  have k0:=h.cells (g:=g) rfl _ _ (QI xs i hi);rw[Go.WideShapes.add_plain]at k0;exact k0
def BZ (prev:Option Int):List Int->List Int
 | []=>[]
 |p::l=>if prev=some p then BZ (some p) l else p::BZ (some p) l
theorem Pt (l:List Int):∀prev,l.Pairwise (·<=·)->(∀q,prev=some q->∀x∈l,q<=x)->
  (BZ prev l).Pairwise (·< ·)/\(∀x,x∈BZ prev l->x∈l/\∀q,prev=some q->q<x)/\(∀x∈l,x∈BZ prev l\/prev=some x):=by
 induction l with
 |nil=>intro prev _ _;exact⟨List.Pairwise.nil,fun x h=>(by cases h),fun x h=>(by cases h)⟩
 |cons p l ih=>
  intro prev h hq;obtain⟨h1,h2⟩:=List.pairwise_cons.1 h;obtain⟨i1,i2,i3⟩:=ih (some p) h2 (fun q e x hx=>by cases e;exact h1 x hx);unfold BZ;split
  ·rename_i e
   refine⟨i1,fun x hx=>⟨by simp[(i2 x hx).1],fun q eq=>(i2 x hx).2 q (by rw[<-eq,e])⟩,fun x hx=> ?_⟩;rcases List.mem_cons.1 hx with rfl|hx
   ·exact .inr e
   ·rcases i3 x hx with h|h
    ·exact .inl h
    ·cases h;exact .inr e
  ·rename_i e
   have hlt:∀q,prev=some q->q<p:=fun q eq=>by
    have h1:=hq q eq p (by simp);rcases Int.lt_or_eq_of_le h1 with l|l
    ·exact l
    ·subst l;exact absurd eq e
   refine⟨List.Pairwise.cons (fun x hx=>(i2 x hx).2 p rfl) i1,fun x hx=> ?_,fun x hx=> ?_⟩
   ·rcases List.mem_cons.1 hx with rfl|hx
    ·exact⟨by simp,hlt⟩
    ·exact⟨by simp[(i2 x hx).1],fun q eq=>Int.lt_trans (hlt q eq) ((i2 x hx).2 p rfl)⟩
   ·rcases List.mem_cons.1 hx with rfl|hx
    ·exact .inl (by simp)
    ·rcases i3 x hx with h|h
     ·exact .inl (by simp[h])
     ·cases h;exact .inl (by simp)
theorem RU {l:List Int} (h:l.Pairwise (·<=·)):(BZ none l).Pairwise (·< ·)/\∀x,x∈BZ none l↔x∈l:=by
 obtain⟨h1,h2,h3⟩:=Pt l none h (fun q e=>by cases e);refine⟨h1,fun x=>⟨fun hx=>(h2 x hx).1,fun hx=> ?_⟩⟩;rcases h3 x hx with h|h
 ·exact h
 ·cases h
theorem Ut (l:List Int):∀prev,(BZ prev l).length<=l.length:=by
 induction l with
 |nil=>intro prev;simp[BZ]
 |cons p l ih=>
  intro prev;unfold BZ;have:=ih (some p);split<;>simp<;>omega
def ET (ys:List Int) (k:Nat):Option Int:=if k=0 then none else ys[k-1]?
theorem JL {ys:List Int} {k:Nat} (h:k<ys.length):ET ys (k+1)=some ys[k]:=by simp[ET,h]
theorem Ps {ys:List Int} {k:Nat} (h:k<ys.length):BZ (ET ys k) (ys.drop k)=(if ET ys k=some ys[k]then []else [ys[k]])++BZ (ET ys (k+1)) (ys.drop (k+1)):=by
 rw[List.drop_eq_getElem_cons h,BZ,JL h];split<;>simp
theorem KW {w:World} {B g cap:Nat} {xs:List Int} (h:w.ownsRow B 3 1 (.slice (some ⟨g,0,none⟩) xs.length cap) xs.length (icc xs)):Sort.Holds (Value.int .i64) w g 0 xs.toArray:=by
 rcases h.2 with⟨e,_⟩|⟨g',cap',cur,e,_,hg,_⟩
 ·cases e
 ·cases e
  intro j hj;have hj':j<xs.length:=by simpa using hj
  have k:=h.cells (g:=g) rfl _ _ (QI xs j hj');rw[Go.WideShapes.add_plain]at k;refine⟨by rw[k];simp[hj'],?_⟩;simp[World.frozen?,hg]
theorem KQ {w:World} {g:Nat} {l:List Int} (h:Sort.Holds (Value.int .i64) w g 0 l.toArray) (hg:g<w.heap.size) (hl:l.length<=1000000):Yo w (some ⟨g,0,none⟩) l.length l:=by
 refine⟨rfl,hl,.inr ⟨g,0,rfl,hg,fun i hi=> ?_⟩⟩;have c:=(h i (by simpa using hi)).1;rw[c];simp[hi]
theorem Sq (B0:Nat) (p:Option Addr) (c:Nat) (xs:List Int) (w:World) (hown:w.ownsRow B0 3 1 (.slice p xs.length c) xs.length (icc xs)) (hB:B0<=w.heap.size) (hl:xs.length<=100000):
  Calls Tryz.prog 106 #[.slice p xs.length c] w fun e w'=>
   e= .returned (.tuple #[])/\∃ys:List Int,(ys.length=xs.length/\ys.Pairwise (·<=·)/\∀x,x∈ys↔x∈xs)/\Yo w' p ys.length ys/\Below B0 w w':=by
 rcases hown.2 with⟨e,h0⟩|⟨g,cap,cur,e,hBg,hg,_⟩
 ·have hx:xs=[]:=List.length_eq_zero_iff.1 h0
  subst hx;refine(Tryz.sort_Ints_none p c w).mono ?_;rintro e w' ⟨rfl,rfl⟩;exact⟨rfl,[],⟨rfl,List.Pairwise.nil,fun x=>Iff.rfl⟩,⟨rfl,by simp,.inl rfl⟩,Below.refl _ _⟩
 ·cases e
  have hgl:g<w.heap.size:=(Array.getElem?_eq_some_iff.1 hg).1;have hH:=KW hown;refine(Tryz.sort_Ints g 0 c xs w hH hgl (by omega)).mono ?_;rintro e w' ⟨rfl,n,os,rfl⟩;have hlen:(xs.mergeSort fun x y=>decide (x<=y)).length=xs.length:=List.length_mergeSort xs
  have hgr:w.grownBy (Sort.grow (Sort.putRow (Value.int .i64) (Sort.ahead w n) g 0 (xs.mergeSort fun x y=>decide (x<=y)).toArray) os) (some g):=by
   refine⟨rfl,rfl,rfl,?_,fun k hk hne=> ?_⟩
   ·simp[Sort.grow,Sort.putRow,Sort.mapBlock,Sort.ahead]
   ·simp only[Sort.grow,Sort.putRow,Sort.mapBlock,Sort.ahead]
    rw[Array.getElem?_append_left (by simpa using hk),Array.getElem?_modify,if_neg (fun e=>hne (by rw[e]))]
  have hs:=hgr.size;refine⟨rfl,xs.mergeSort fun x y=>decide (x<=y),⟨hlen,?_,fun x=>List.mem_mergeSort⟩,?_,(Below.refl B0 w).grown hgr hB (fun k hk=>by cases hk;exact hBg)⟩
  ·have:=List.pairwise_mergeSort (le:=fun x y:Int=>decide (x<=y)) (fun a b c h1 h2=>by simp at *;omega) (fun a b=>by simp;omega) xs
   exact this.imp (fun h=>by simpa using h)
  ·refine KQ (Sort.holds_grow _ _ _ _ _ _ ?_ (Sort.holds_putRow _ _ _ _ xs.toArray _ (Sort.holds_ahead _ _ _ _ _ _ hH) (by simp[hlen]))) (by omega) (by omega)
   simp[Sort.putRow,Sort.mapBlock,Sort.ahead];omega
theorem NS (w:World) (x:Int):∀j u,[Value.int .i64 x][j]? =some u->(w.alloc (.cells #[.int .i64 x] 3)).cell? ((⟨w.heap.size,0,none⟩:Addr).add j)=some u:=cell_one_new w (.int .i64 x) 3
theorem OX (B0:Nat) (v:Value) (xs:List Int) (w:World) (hown:w.ownsRow B0 3 1 v xs.length (icc xs)) (hB:B0<=w.heap.size) (hl:xs.length<=100000):
  Calls Tryz.prog 69 #[v] w fun e w'=>∃v' T,e= .returned v'/\w'.ownsRow B0 3 1 v' T.length (icc T)/\(T.Pairwise (·< ·)/\(∀x,x∈T↔x∈xs)/\T.length<=xs.length)/\Below B0 w w':=by
 obtain⟨i0,hi,hz0,hz1,hz2⟩:=A5 M9;obtain⟨p,c,rfl,_⟩:=Np hown (by omega);have hc:=Sq B0 p c xs w hown hB hl;clear hown;go_enter Tryz.func69,Tryz.ntmps69;go_wp2_with fail;refine hc.mono ?_;rintro e w2 ⟨rfl,ys,⟨y1,y2,y3⟩,hr,hb2⟩;go_wp2;clear hc
 have HT:Hid ((BZ none ys).Pairwise (·< ·)/\(∀x,x∈BZ none ys↔x∈xs)/\(BZ none ys).length<=xs.length):=by
  obtain⟨t1,t2⟩:=RU y2;exact⟨t1,fun x=>by rw[t2,y3],by rw[<-y1];exact Ut ys none⟩
 obtain⟨T,hT⟩:∃T,BZ none ys=T:=⟨_,rfl⟩;have HS:Hid (BZ (ET ys 0) (ys.drop 0)=T):=hT;rw[hT]at HT;have HB2:Hid (Below B0 w w2):=hb2;have hs2:B0<=w2.heap.size:=Nat.le_trans hB hb2.size;clear hT y2 y3 hb2;obtain⟨_,hm,hx⟩:=hr;rw[<-y1];rw[<-y1]at hl;clear y1;go_loopw [3,10] (fun v i wr=>∃(k:Nat) (l:List Int),k<=ys.length/\l.length<=k/\i= .int .i64 k/\Hid (l++BZ (ET ys k) (ys.drop k)=T)/\Hid (wr.ownsRow w2.heap.size 3 1 v l.length (icc l)/\Below w2.heap.size w2 wr)) (fun _ i _=>ys.length-(intOf i).toNat)
 case atStart=>exact⟨0,[],Nat.zero_le _,by simp,rfl,HS,World.ownsRow_nil _ _ _ _,Below.refl _ _⟩
 case round=>
  clear HS;obtain⟨k,l,hk,hlk,rfl,hz,hown⟩:=hrel
  by_cases hlt:k<ys.length
  ·rcases hx with hx|⟨b,off,rfl,hb,hrow⟩
   ·simp[hx]at hlt
   have g1:=hrow k hlt;rw[<-hown.out.2.cell (p:=⟨b,_,none⟩) hb]at g1;have i1:(k:Int)<(ys.length:Int):=by omega
   have HZ:Hid (l++((if ET ys k=some ys[k]then []else [ys[k]])++BZ (ET ys (k+1)) (ys.drop (k+1)))=T):=by
    show _=_;rw[<-hz.out,Ps hlt]
   have HB:Hid (Below w2.heap.size w2 wr):=hown.out.2;have HO:Hid (wr.ownsRow w2.heap.size 3 1 u3 l.length (icc l)):=hown.out.1;have HLK:Hid (l.length<=k):=hlk;have hsw:=HB.out.size;clear hown hz
   by_cases hk0:k=0
   ·subst hk0
    have HZ3:Hid ((l++[ys[0]])++BZ (ET ys (0+1)) (ys.drop (0+1))=T):=by
     show _=_;rw[<-HZ.out,if_neg (by simp[ET]),List.append_assoc]
    clear HZ hrow;simp only[Nat.add_zero]at g1;generalize ys[0]=q at *
    go_wp2_with (at_builtin;refine wpList_append_own _ rfl _ _ 95 rfl w2.heap.size 3 i0 (.int .i64 0) 1 8 Tryz.underlying95 hi hz0 hz1 hz2 rfl (by decide) _ _ _ rfl (HO.out.alloc _) ⟨wr.heap.size,0,none⟩ 1 1 [.int .i64 q] rfl rfl (NS wr q) (H9 _) (by simp[maxLen];omega) (by omega) (by simp;omega) ?_)
    intro v3 w3 ho3 hg3 _;have HB3:Hid (Below w2.heap.size w2 w3):=(HB.out.alloc (by omega) _).grown hg3 (by simp;omega) (fun g hg=>(HO.out.lt g hg).1);have HO3:Hid (w3.ownsRow w2.heap.size 3 1 v3 (l++[q]).length (icc (l++[q]))):=Bc ho3 (by simp) (by rw[Hf];rfl);clear ho3 hg3 HO HB;go_wp2;go_roundw
    case rel=>exact⟨0+1,l++[q],by omega,by have:=HLK.out;simp only[List.length_append,List.length_cons,List.length_nil];omega,by go_num,HZ3,HO3.out,HB3.out⟩
    case measure=>simp[intOf];omega
   ·obtain⟨j,rfl⟩:∃j,k=j+1:=⟨k-1,by omega⟩
    have g3:=hrow j (by omega);clear hrow;rw[<-HB.out.cell (p:=⟨b,_,none⟩) hb]at g3
    have HZ2:Hid (l++((if ys[j]=ys[j+1]then []else [ys[j+1]])++BZ (ET ys (j+1+1)) (ys.drop (j+1+1)))=T):=by
     show _=_;rw[<-HZ.out,JL (by omega:j<ys.length)];simp only[Option.some.injEq]
    clear HZ;generalize ys[j+1]=q at *;generalize ys[j]=p at *;have i2:(j:Int)<(ys.length:Int):=by omega
    have i3:((j:Int)+1 == 0)=false:=by simp;omega
    by_cases hpq:p=q
    ·subst hpq
     have HZ3:Hid (l++BZ (ET ys (j+1+1)) (ys.drop (j+1+1))=T):=by
      have h:=HZ2.out;rw[if_pos rfl]at h;exact h
     clear HZ2;go_wp2;go_roundw
     case rel=>exact⟨j+1+1,l,by omega,by have:=HLK.out;omega,by go_num,HZ3,HO.out,HB.out⟩
     case measure=>simp[intOf];omega
    ·have HZ3:Hid ((l++[q])++BZ (ET ys (j+1+1)) (ys.drop (j+1+1))=T):=by
      have h:=HZ2.out;rw[if_neg hpq]at h;show _=_;rw[List.append_assoc];exact h
     clear HZ2;have m1:(p == q)=false:=by simpa using hpq
     clear hpq
     go_wp2_with (at_builtin;refine wpList_append_own _ rfl _ _ 95 rfl w2.heap.size 3 i0 (.int .i64 0) 1 8 Tryz.underlying95 hi hz0 hz1 hz2 rfl (by decide) _ _ _ rfl (HO.out.alloc _) ⟨wr.heap.size,0,none⟩ 1 1 [.int .i64 q] rfl rfl (NS wr q) (H9 _) (by simp[maxLen];omega) (by omega) (by simp;omega) ?_)
     intro v3 w3 ho3 hg3 _;have HB3:Hid (Below w2.heap.size w2 w3):=(HB.out.alloc (by omega) _).grown hg3 (by simp;omega) (fun g hg=>(HO.out.lt g hg).1);have HO3:Hid (w3.ownsRow w2.heap.size 3 1 v3 (l++[q]).length (icc (l++[q]))):=Bc ho3 (by simp) (by rw[Hf];rfl);clear ho3 hg3 HO HB;go_wp2;go_roundw
     case rel=>exact⟨j+1+1,l++[q],by omega,by have:=HLK.out;simp only[List.length_append,List.length_cons,List.length_nil];omega,by go_num,HZ3,HO3.out,HB3.out⟩
     case measure=>simp[intOf];omega
  ·have e:l=T:=by
    have h:=hz.out;rw[List.drop_eq_nil_of_le (by omega)]at h;simpa [BZ]using h
   subst e;go_wp2;go_ret;exact⟨_,rfl,l,G4 hown.out.1 (by omega),HT.out,HB2.out.trans (hown.out.2.mono (by omega))⟩
theorem OV {w:World} {a:Option Addr} {n:Nat} {tx:Nat->ByteArray} (h:TxS w a n tx) (hn:n<=25):It w a n ((List.range n).map tx):=by
 refine⟨by simp,by simp;omega,?_⟩
 cases n with
 |zero=>exact .inl rfl
 |succ n=>
  obtain⟨b,off,e,hb,_⟩:=h 0 (by omega);refine .inr ⟨b,off,e,hb,fun i hi=> ?_⟩;have hi':i<n+1:=by simpa using hi
  obtain⟨b2,off2,e2,_,hc⟩:=h i hi';rw[e]at e2
  obtain⟨rfl,rfl⟩:b=b2/\off=off2:=by
   injection e2 with e2;injection e2 with e3 e4;exact⟨e3,e4⟩
  rw[hc];simp
theorem Nh:AS:=fun B0 v xs w h1 h2 h3=>OO B0 v xs w h1 h2 h3
theorem Ns:CI:=fun B0 v xs w h1 h2 h3=>OX B0 v xs w h1 h2 h3
set_option maxHeartbeats 2000000
theorem PE:OE:=by
 intro w n0 c0 a0 tx A hx hA hg
 by_cases h0:n0<=25
 ·have e0:¬(25:Int)<(n0:Int):=by omega
  by_cases h1:A.size<=300
  ·have hl:((List.range n0).map tx).length=n0:=by simp
   have:=PG Nh Ns w hg a0 c0 ((List.range n0).map tx) A (by rw[hl];exact OV hx h0) (by omega) h1;rw[hl]at this;exact this
  ·have e1:(300:Int)<(A.size:Int):=by omega
   clear hx hg h1 h0;go_enter Tryz.func3,Tryz.ntmps3;go_wp2;go_ret;exact⟨rfl,Below.refl _ _⟩
 ·have e0:(25:Int)<(n0:Int):=by omega
  clear hx hg h0;go_enter Tryz.func3,Tryz.ntmps3;go_wp2;go_ret;exact⟨rfl,Below.refl _ _⟩
theorem matchfinds_card:Rows.MatchFindsCardSaid:=KY PE
#print axioms matchfinds_card
end
end Go.Proofs.YtgfldnaahojnlaaGreatDoor
