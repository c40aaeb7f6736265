/- StoreFinds: part 26. -/
import Derived.Test.YtihnldkgeelehaaGreatDoorF44
import Derived.Lib.AppendStr
import Derived.ProofKit
import Derived.Deep.Slices
import Derived.Deep.Strs
import Derived.Lib.IndexBytes
import Derived.Deep.RegionHeld3
set_option maxRecDepth 100000
set_option maxHeartbeats 4000000
namespace Go.Proofs.YtihnldkgeelehaaGreatDoor
section
open Go.RowKit
open Go.RowKit
def bc (l:List UInt8):List Value:=l.map fun b=>Value.int .u8 b.toNat
theorem IG:(Tryz.prog.info? 5).map (fun i=>(i.zero,i.size,i.bytes))=some (some (.int .u8 0),1,1):=by kernel_rfl
def DL (u:Nat) (k:Nat):List UInt8:=(List.range k).map fun i=>UInt8.ofNat (u / 256 ^ (7-i))
def Bz (n:Int):Nat:=(n+9223372036854775808).toNat
theorem Lo (n:Int) (h1: -9223372036854775808<=n) (h2:n<=9223372036854775807):IntKind.u64.wrap (IntKind.u64.wrap n+9223372036854775808)=(Bz n:Int):=by
 unfold Bz;simp[IntKind.wrap,IntKind.signed,IntKind.bits];omega
theorem Cc (u k:Nat):(DL u k).length=k:=by simp[DL]
theorem QL (a b:List UInt8):bc (a++b)=bc a++bc b:=by simp[bc]
theorem KG (u k:Nat):DL u (k+1)=DL u k++[UInt8.ofNat (u / 256 ^ (7-k))]:=by simp[DL,List.range_succ]
theorem Gi {w:World} {B:Nat} {v:Value} {n n':Nat} {xs xs':List Value} (h:w.ownsRow B 5 1 v n xs) (hn:n=n') (hx:xs=xs'):w.ownsRow B 5 1 v n' xs':=by rw[<-hn,<-hx];exact h
theorem QJ (u k:Nat):bc [UInt8.ofNat (u / 256 ^ (7-k))]=[.int .u8 ((u:Int) / 2 ^ (8 * (7-k)) % 256)]:=by
 have e:(2:Int) ^ (8 * (7-k))=((256 ^ (7-k):Nat):Int):=by rw[Int.pow_mul];simp
 simp only[bc,List.map_cons,List.map_nil];rw[e];congr 2
set_option maxHeartbeats 400000
theorem Gk (B:Nat) (v:Value) (l:List UInt8) (n:Int) (w:World) (hown:w.ownsRow B 5 1 v l.length (bc l)) (hB:B<=w.heap.size) (hl:l.length<=1000000) (h1: -9223372036854775808<=n) (h2:n<=9223372036854775807):
  Calls Tryz.prog 163 #[v,.int .i64 n] w fun e w'=>∃v',e= .returned v'/\w'.ownsRow B 5 1 v' (l++DL (Bz n) 8).length (bc (l++DL (Bz n) 8))/\Below B w w':=by
 obtain⟨i0,hi,hz0,hz1,hz2⟩:=C4w IG;have HW:Hid _:=Lo n h1 h2;clear h1 h2;generalize Bz n=u at *;go_enter Tryz.func163,Tryz.ntmps163;go_wp2;rw[HW.out];clear HW;go_loopw [0,10] (fun v i wr=>∃k:Nat,k<=8/\i= .int .i64 k/\wr.ownsRow B 5 1 v (l++DL u k).length (bc (l++DL u k))/\Below B w wr) (fun _ i _=>8-(intOf i).toNat)
 case atStart=>exact⟨0,by omega,rfl,by simpa [DL]using hown,Below.refl _ _⟩
 case round=>
  clear hown;obtain⟨k,hk,rfl,hown,hbl⟩:=hrel
  by_cases hlt:k<8
  ·have hlt':(k:Int)<8:=by omega
   have hlen:=Cc u k
   go_wp2_with (at_builtin;refine wpList_append_own _ rfl _ _ 199 rfl B 5 i0 (.int .u8 0) 1 1 Tryz.underlying199 hi hz0 hz1 hz2 rfl (by decide) _ _ _ rfl (hown.alloc _) ⟨wr.heap.size,0,none⟩ 1 1 [.int .u8 ((u:Int) / 2 ^ (8 * (7-k)) % 256)] rfl rfl ?c1 ?c2 ?c3 ?c4 ?c5 ?_)
   case c1=>exact cell_one_new _ _ _
   case c2=>intro x hx;simp at hx;subst hx;rfl
   case c3=>simp[hlen,maxLen];omega
   case c4=>simp[hlen];omega
   case c5=>have:=hbl.size;simp;omega
   ·intro v' w1 hown' hgrow _
    have hbl':=hbl.size;have hb1:Below B w w1:=(hbl.alloc (by omega) _).grown hgrow (by simp;omega) (fun g hg=>(hown.lt g hg).1)
    have hown2:w1.ownsRow B 5 1 v' (l++DL u (k+1)).length (bc (l++DL u (k+1))):=
     Gi hown' (by simp[Cc,Nat.add_assoc]) (by rw[KG,<-List.append_assoc,QL (l++DL u k),QJ])
    clear hown hgrow hown' hbl;go_wp2;go_roundw
    case rel=>exact⟨k+1,by omega,by go_num,hown2,hb1⟩
    case measure=>simp[intOf];omega
  ·go_wp2
   go_ret;have:k=8:=by omega
   subst this;exact⟨_,rfl,hown,hbl⟩
def Ou (k n:Int) (s:ByteArray):List UInt8:=
 if k=1 then 2::DL (Bz n) 8 else if k=2 then 3::(s.data.toList++[0])else [1]
theorem Mm (s:ByteArray):Lib.strCells s=bc s.data.toList:=by simp[Lib.strCells,bc]
theorem Oi {W W':World} {row:Option Nat} (hg:W.grownBy W' row) (b o:Nat) (h:b<W.heap.size) (hne:row≠some b):W'.cell? ⟨b,o,none⟩=W.cell? ⟨b,o,none⟩:=
 World.cell?_of_block (w:=W) (hg.block b h (fun e=>hne e.symm))
theorem FY {B:Nat} {v:Value} {l:List UInt8} {w w1:World} {v1:Value} {c:UInt8} {k n:Int} {s:ByteArray} (hown:w.ownsRow B 5 1 v l.length (bc l)) (hB:B<=w.heap.size)
  (hown1:w1.ownsRow B 5 1 v1 (l.length+1) (bc l++[.int .u8 c.toNat])) (hg:((w.alloc (.cells #[.int .i64 k,.int .i64 n,.string s] 24)).alloc (.cells #[.int .u8 c.toNat] 5)).grownBy w1 v.ownBlock):
  w1.ownsRow B 5 1 v1 (l++[c]).length (bc (l++[c]))/\Below B w w1/\B<=w1.heap.size/\w.heap.size<w1.heap.size/\w1.cell? ⟨w.heap.size,0,none⟩=some (.int .i64 k)/\w1.cell? ⟨w.heap.size,1,none⟩=some (.int .i64 n)/\w1.cell? ⟨w.heap.size,2,none⟩=some (.string s):=by
 have hb:Below B w w1:=(((Below.refl B w).alloc hB _).alloc (by simp;omega) _).grown hg (by simp;omega) (fun g h=>(hown.lt g h).1);have hs:=hb.size;have hsz:=hg.size;simp at hsz;have hne:v.ownBlock≠some w.heap.size:=fun e=>by have:=(hown.lt _ e).2;omega
 have hc:∀o,w1.cell? ⟨w.heap.size,o,none⟩=(w.alloc (.cells #[.int .i64 k,.int .i64 n,.string s] 24)).cell? ⟨w.heap.size,o,none⟩:=by
  intro o;rw[Oi hg _ _ (by simp;omega) hne,World.cell?_alloc_lt _ _ _ (by simp)]
 refine⟨Gi hown1 (by simp) (by simp[bc]),hb,by omega,by omega,?_,?_,?_⟩
 ·rw[hc];simp
 ·rw[hc];simp
 ·rw[hc];simp
theorem Er (w:World) (o:Obj) (x:Value) (t:TypeId):∀j u,[x][j]? =some u->((w.alloc o).alloc (.cells #[x] t)).cell? ((⟨w.heap.size+1,0,none⟩:Addr).add j)=some u:=by
 have h:=cell_one_new (w.alloc o) x t;have e:(w.alloc o).heap.size=w.heap.size+1:=by simp
 rw[e]at h;exact h
theorem Kg (B:Nat) (v:Value) (l:List UInt8) (n:Int) (s:ByteArray) (w:World) (hown:w.ownsRow B 5 1 v l.length (bc l)) (hB:B<=w.heap.size) (hl:l.length<=900000):
  Calls Tryz.prog 115 #[v,.agg #[.int .i64 0,.int .i64 n,.string s]] w fun e w'=>∃v',e= .returned v'/\w'.ownsRow B 5 1 v' (l++[1]).length (bc (l++[1]))/\Below B w w':=by
 obtain⟨i0,hi,hz0,hz1,hz2⟩:=C4w IG;go_enter Tryz.func115,Tryz.ntmps115
 go_wp2_with (at_builtin;refine wpList_append_own _ rfl (.tmp 5) (.tmp 10) 199 rfl B 5 i0 (.int .u8 0) 1 1 Tryz.underlying199 hi hz0 hz1 hz2 rfl (by decide) _ _ _ rfl ((hown.alloc _).alloc _) ⟨w.heap.size+1,0,none⟩ 1 1 [.int .u8 1] rfl rfl ?c1 ?c2 ?c3 ?c4 ?c5 ?_)
 case c1=>exact Er _ _ _ _
 case c2=>intro x hx;simp at hx;subst hx;rfl
 case c3=>simp[maxLen];omega
 case c4=>omega
 case c5=>simp;omega
 ·intro v1 w1 hown1 hgrow _
  obtain⟨ho,hb,hB1,hsz,q0,q1,q2⟩:=FY (c:=1) hown hB hown1 hgrow;clear hown hown1 hgrow;go_wp2;go_ret;exact⟨_,rfl,ho,hb⟩
theorem Kf (B:Nat) (v:Value) (l:List UInt8) (n:Int) (s:ByteArray) (w:World) (hown:w.ownsRow B 5 1 v l.length (bc l)) (hB:B<=w.heap.size) (hl:l.length<=900000) (h1: -9223372036854775808<=n) (h2:n<=9223372036854775807):
  Calls Tryz.prog 115 #[v,.agg #[.int .i64 1,.int .i64 n,.string s]] w fun e w'=>∃v',e= .returned v'/\w'.ownsRow B 5 1 v' (l++2::DL (Bz n) 8).length (bc (l++2::DL (Bz n) 8))/\Below B w w':=by
 obtain⟨i0,hi,hz0,hz1,hz2⟩:=C4w IG;go_enter Tryz.func115,Tryz.ntmps115
 go_wp2_with (at_builtin;refine wpList_append_own _ rfl (.tmp 5) (.tmp 10) 199 rfl B 5 i0 (.int .u8 0) 1 1 Tryz.underlying199 hi hz0 hz1 hz2 rfl (by decide) _ _ _ rfl ((hown.alloc _).alloc _) ⟨w.heap.size+1,0,none⟩ 1 1 [.int .u8 2] rfl rfl ?c1 ?c2 ?c3 ?c4 ?c5 ?_)
 case c1=>exact Er _ _ _ _
 case c2=>intro x hx;simp at hx;subst hx;rfl
 case c3=>simp[maxLen];omega
 case c4=>omega
 case c5=>simp;omega
 ·intro v1 w1 hown1 hgrow _
  obtain⟨ho,hb,hB1,hsz,q0,q1,q2⟩:=FY (c:=2) hown hB hown1 hgrow;clear hown hown1 hgrow;go_wp2_with fail;refine(Gk B v1 (l++[2]) n _ ho hB1 (by simp;omega) h1 h2).mono ?_;rintro e w2 ⟨v2,rfl,ho2,hb2⟩;go_wp2;go_ret;exact⟨_,rfl,Gi ho2 (by simp) (by simp),hb.trans hb2⟩
theorem Ke (B:Nat) (v:Value) (l:List UInt8) (n:Int) (s:ByteArray) (w:World) (hown:w.ownsRow B 5 1 v l.length (bc l)) (hB:B<=w.heap.size) (hl:l.length<=900000) (hs:s.size<=40):
  Calls Tryz.prog 115 #[v,.agg #[.int .i64 2,.int .i64 n,.string s]] w fun e w'=>∃v',e= .returned v'/\w'.ownsRow B 5 1 v' (l++3::(s.data.toList++[0])).length (bc (l++3::(s.data.toList++[0])))/\Below B w w':=by
 obtain⟨i0,hi,hz0,hz1,hz2⟩:=C4w IG;go_enter Tryz.func115,Tryz.ntmps115
 go_wp2_with (at_builtin;refine wpList_append_own _ rfl (.tmp 5) (.tmp 10) 199 rfl B 5 i0 (.int .u8 0) 1 1 Tryz.underlying199 hi hz0 hz1 hz2 rfl (by decide) _ _ _ rfl ((hown.alloc _).alloc _) ⟨w.heap.size+1,0,none⟩ 1 1 [.int .u8 3] rfl rfl ?c1 ?c2 ?c3 ?c4 ?c5 ?_)
 case c1=>exact Er _ _ _ _
 case c2=>intro x hx;simp at hx;subst hx;rfl
 case c3=>simp[maxLen];omega
 case c4=>omega
 case c5=>simp;omega
 ·intro v1 w1 hown1 hgrow _
  obtain⟨ho,hb,hB1,hsz,q0,q1,q2⟩:=FY (c:=3) hown hB hown1 hgrow;clear hown hown1 hgrow
  go_wp2_with (at_builtin;refine Lib.wpList_append_own_string _ rfl (.tmp 22) (.tmp 24) 199 9 rfl B 5 i0 Tryz.underlying199 Tryz.underlying9 hi hz0 hz1 hz2 _ _ _ rfl ho s rfl ?d1 ?d2 ?d3 ?_)
  case d1=>simp[maxLen];omega
  case d2=>simp;omega
  case d3=>exact hB1
  ·intro v2 w2 ho2 hg2 _
   have hb2:Below B w w2:=hb.grown hg2 hB1 (fun g h=>(ho.lt g h).1);have hB2:B<=w2.heap.size:=by have:=hg2.size;omega
   have ho3:w2.ownsRow B 5 1 v2 (l++3::s.data.toList).length (bc (l++3::s.data.toList)):=Gi ho2 (by simp;omega) (by rw[Mm];simp[bc]);clear ho ho2 hg2
   go_wp2_with (at_builtin;refine wpList_append_own _ rfl (.tmp 26) (.tmp 27) 199 rfl B 5 i0 (.int .u8 0) 1 1 Tryz.underlying199 hi hz0 hz1 hz2 rfl (by decide) _ _ _ rfl (ho3.alloc _) ⟨w2.heap.size,0,none⟩ 1 1 [.int .u8 0] rfl rfl ?f1 ?f2 ?f3 ?f4 ?f5 ?_)
   case f1=>exact cell_one_new _ _ _
   case f2=>intro x hx;simp at hx;subst hx;rfl
   case f3=>simp[maxLen];omega
   case f4=>simp;omega
   case f5=>simp;omega
   ·intro v3 w3 ho4 hg3 _
    have hb3:Below B w w3:=(hb2.alloc hB2 _).grown hg3 (by simp;omega) (fun g h=>(ho3.lt g h).1);go_wp2;go_ret;exact⟨_,rfl,Gi ho4 (by simp;omega) (by simp[bc]),hb3⟩
end
section
open Go.RowKit
def CQ (x:Vl):Prop:=(Lit.int .i64 x.k).wf=true/\(Lit.int .i64 x.n).wf=true
open Go.RowKit
def Ba (x:Vl):Bool:=Cq x.k x.n x.s
def BD (x:Vl):List UInt8:=Ou x.k x.n x.s
def Bp (xs:List Vl):List UInt8:=xs.flatMap BD
def An (l:List UInt8):ByteArray:=⟨l.toArray⟩
theorem CQ.low {x:Vl} (h:CQ x): -9223372036854775808<=x.n/\x.n<=9223372036854775807:=by
 have:=h.2;simp[Lit.wf,IntKind.min,IntKind.max,IntKind.signed,IntKind.bits]at this;omega
theorem Es {s:ByteArray} (h:Gm s=true):s.size<=40:=by
 unfold Gm at h;simp at h;exact h.1
theorem I1 {x:Vl} (h:Ba x=true):(BD x).length<=42:=by
 unfold Ba Cq at h;unfold BD Ou
 by_cases h1:x.k=1
 ·simp[h1,Cc]
 ·by_cases h2:x.k=2
  ·simp[h2]at h
   have:=Es h.2;simp[h2];omega
  ·simp[h1,h2]
theorem Io (B:Nat) (v:Value) (l:List UInt8) (x:Vl) (w:World) (hown:w.ownsRow B 5 1 v l.length (bc l)) (hB:B<=w.heap.size) (hl:l.length<=900000) (hf:CQ x) (hr:Ba x=true):
  Calls Tryz.prog 115 #[v,.agg #[.int .i64 x.k,.int .i64 x.n,.string x.s]] w fun e w'=>∃v',e= .returned v'/\w'.ownsRow B 5 1 v' (l++BD x).length (bc (l++BD x))/\Below B w w':=by
 obtain⟨k,n,s⟩:=x;have hlow:=hf.low;unfold Ba Cq at hr;unfold BD Ou;simp only at hr hlow ⊢
 by_cases h1:k=1
 ·subst h1
  exact Kf B v l n s w hown hB hl hlow.1 hlow.2
 ·by_cases h2:k=2
  ·subst h2
   simp at hr;exact Ke B v l n s w hown hB hl (Es hr.2)
  ·by_cases h0:k=0
   ·subst h0
    exact Kg B v l n s w hown hB hl
   ·simp[h0,h1,h2]at hr
theorem Qh (xs:List Vl) (k:Nat) (h:k<xs.length):Bp (xs.take (k+1))=Bp (xs.take k)++BD xs[k]:=by
 unfold Bp;rw[List.take_succ_eq_append_getElem h,List.flatMap_append];simp
theorem Ix (xs:List Vl) (h:∀x∈xs,Ba x=true):(Bp xs).length<=42 * xs.length:=by
 induction xs with
 |nil=>simp[Bp]
 |cons x xs ih=>
  have h1:=I1 (h x (by simp));have h2:=ih (fun y hy=>h y (by simp[hy]));simp only[Bp,List.flatMap_cons,List.length_append,List.length_cons]at h2 ⊢;omega
theorem Sr (w:World) (B:Nat) (v:Value) (l:List UInt8) (hown:w.ownsRow B 5 1 v l.length (bc l)):(convert 199 9 v).run Tryz.prog w= .ok (.string (An l)) w:=by
 rcases hown.2 with⟨rfl,h0⟩|⟨g,cap,cur,rfl,_,hg,_⟩
 ·have:l=[]:=List.length_eq_zero_iff.1 h0
  subst this;exact run_convert_bytes_nil w 199 5 Tryz.underlying199 Tryz.underlying5 0 0 9 Tryz.underlying9
 ·have:=run_convert_bytes_arg w 199 5 Tryz.underlying199 Tryz.underlying5 g 0 l.length cap (l.map fun b=>(b.toNat:Int)) (by simp) (fun i hi=>by
   have hc:=hown.cells (g:=g) rfl i (.int .u8 (l[i].toNat)) (by simp[bc,hi]);rw[Go.WideShapes.add_plain]at hc;rw[hc];simp[hi]) 9 Tryz.underlying9
  rw[this];congr 2;simp[strOfNums,An,Function.comp_def]
theorem IE {w w':World} {B D:Nat} {e:TypeId} {size:Nat} {v:Value} {n:Nat} {xs:List Value} (h:w.ownsRow B e size v n xs) (hb:Below D w w') (hD:w.heap.size<=D):w'.ownsRow B e size v n xs:=by
 refine⟨h.1,?_⟩;rcases h.2 with h2|⟨g,cap,cur,hv,hg,hh,r⟩
 ·exact .inl h2
 ·have:=(Array.getElem?_eq_some_iff.1 hh).1
  exact .inr ⟨g,cap,cur,hv,hg,by rw[hb.block g (by omega)];exact hh,r⟩
set_option maxHeartbeats 400000
theorem RQ (a:Option Addr) (len cap:Nat) (xs:List Vl) (w:World) (hr:BY w a len xs) (hf:∀x∈xs,CQ x) (hlen:xs.length<=1000) (hall:∀x∈xs,Ba x=true):
  Calls Tryz.prog 63 #[.slice a len cap] w fun e w'=>e= .returned (.tuple #[.string (An (Bp xs)),.nilIface])/\Below w.heap.size w w':=by
 obtain⟨rfl,hm,hx⟩:=hr;clear hm;go_enter Tryz.func63,Tryz.ntmps63;go_wp2;go_loopw [4,9] (fun v i wr=>∃k:Nat,k<=xs.length/\i= .int .i64 k/\wr.ownsRow w.heap.size 5 1 v (Bp (xs.take k)).length (bc (Bp (xs.take k)))/\Below w.heap.size w wr) (fun _ i _=>xs.length-(intOf i).toNat)
 case atStart=>exact⟨0,Nat.zero_le _,rfl,World.ownsRow_nil _ _ _ _,Below.refl _ _⟩
 case round=>
  obtain⟨k,hk,rfl,hown,hbl⟩:=hrel;have hbs:=hbl.size
  by_cases hlt:k<xs.length
  ·rcases hx with hx|⟨b,off,rfl,hb,hrow⟩
   ·simp[hx]at hlt
   obtain⟨g1,g2,g3,g4⟩:=hrow k hlt;clear hrow;rw[<-hbl.cell (p:=⟨b,_,none⟩) hb]at g1 g2 g3;have hb2:b<wr.heap.size:=by omega
   have hfx:=hf _ (List.getElem_mem hlt);have hrx:=hall _ (List.getElem_mem hlt);have hkl:Hid _:=Qh xs k hlt
   have hle:(Bp (xs.take k)).length<=900000:=by
    have:=Ix (xs.take k) (fun x hx=>hall x (List.mem_of_mem_take hx));simp at this;omega
   generalize xs[k]=x at *;have HF:Hid _:=hfx;have HR:Hid _:=hrx;have HA:Hid _:=hall;have HFs:Hid _:=hf;clear hfx hrx hall hf;go_wp2_with fail;refine(Pt _ _ _ true HR.out _ g4).mono ?_;rintro e w1 ⟨rfl,hb1⟩;have hown1:=IE (hown.alloc _) hb1 (Nat.le_refl _);have hbl1:Below w.heap.size w w1:=(hbl.alloc hbs _).trans (hb1.mono (by simp;omega));have hbs1:=hbl1.size;have hc1:=fun o=>VM hb1 wr.heap.size o (by simp);clear hown hbl hb1;go_wp2_with fail;refine(Io w.heap.size _ (Bp (List.take k xs)) x _ hown1 hbs1 hle HF.out HR.out).mono ?_;rintro e w2 ⟨v2,rfl,ho2,hb2⟩;rw[<-hkl.out]at ho2;have hbl2:=hbl1.trans hb2;clear hown1 hbl1 hb2;go_wp2;go_roundw
   case rel=>exact⟨k+1,by omega,by go_num,ho2,hbl2⟩
   case measure=>simp[intOf];omega
  ·have e:xs.take k=xs:=List.take_of_length_le (by omega)
   rw[e]at hown;have hcv:=Sr wr _ _ _ hown;clear hown e;go_wp2;go_ret2;exact⟨rfl,hbl⟩
end
section
open Go.RowKit
open Go.RowKit
def F6:List UInt8->Option (Vl×Nat)
 | []=>none
 |c::r=>
  if c=1 then some (⟨0,0,⟨#[]⟩⟩,1)
  else if c=2 then(if 8<=r.length then some (⟨1,(BS (r.take 8):Int)-9223372036854775808,⟨#[]⟩⟩,9)else none)
  else if c=3 then(if Cy (r.take 41)=(r.take 41).length then none else some (⟨2,0,An (r.take (Cy (r.take 41)))⟩,1+Cy (r.take 41)+1))
  else none
def CH (l:List UInt8):Vl×Nat:=(F6 l).getD (⟨0,0,⟨#[]⟩⟩,0)
def Vv (p:Vl×Nat):Value:= .tuple #[.agg #[.int .i64 p.1.k,.int .i64 p.1.n,.string p.1.s],.int .i64 (p.2:Int)]
theorem CM (s:ByteArray) (a b:Nat):(s.extract a b).data.toList=(s.data.toList.take b).drop a:=by
 rw[ByteArray.data_extract,Array.toList_extract,List.extract_eq_drop_take']
theorem Dc {a b:ByteArray} (h:a.data.toList=b.data.toList):a=b:=by
 obtain⟨x⟩:=a;obtain⟨y⟩:=b;simp at h;rw[h]
theorem AA (b:ByteArray):b.size=b.data.toList.length:=by simp
theorem Mc (s:ByteArray):(s.extract 1 (min s.size 42)).data.toList=s.data.toList.tail.take 41:=by
 rw[CM];have e:s.size=s.data.toList.length:=by simp
 rw[e]
 cases s.data.toList with
 |nil=>simp
 |cons c r=>
  simp only[List.length_cons,List.tail_cons,List.drop_one];rw[show min (r.length+1) 42=min r.length 41+1 by omega,List.take_succ_cons,List.tail_cons];rw[List.take_eq_take_iff];omega
theorem N0 (s:ByteArray) (c:UInt8) (r:List UInt8) (h:s.data.toList=c::r) (hc:c=3):E7 (s.extract 1 (min s.size 42))=Vv (CH s.data.toList):=by
 have hw:=Mc s
 have hsz:(s.extract 1 (min s.size 42)).size=(r.take 41).length:=by
  rw[AA,hw,h];rfl
 rw[h,List.tail_cons]at hw;subst hc;unfold E7 Vv CH F6;rw[hw,hsz,h]
 by_cases hz:Cy (r.take 41)=(r.take 41).length
 ·simp[hz]
 ·simp only[if_neg hz]
  have hle:=Iw (r.take 41);simp at hle
  have e:(s.extract 1 (min s.size 42)).extract 0 (Cy (r.take 41))=An (r.take (Cy (r.take 41))):=by
   apply Dc;rw[CM,hw];simp[An,List.take_take];omega
  rw[e];simp
theorem L2 (s:ByteArray) (w:World) (x:Vl) (m:Nat) (hd:CH s.data.toList=(x,m)) (c:UInt8) (r:List UInt8) (h:s.data.toList=c::r) (hc:c=3) (hm:s.size<=maxLen):
  Calls Tryz.prog 191 #[.string s] w fun e w'=>e= .returned (.tuple #[.agg #[.int .i64 x.k,.int .i64 x.n,.string x.s],.int .i64 (m:Int)])/\Below w.heap.size w w':=by
 have:=L3 s w (by rw[AA,h];simp) hm;rw[N0 s c r h hc,hd]at this;exact this
theorem IX (s:ByteArray) (w:World) (x:Vl) (m:Nat) (hd:CH s.data.toList=(x,m)) (c:UInt8) (r:List UInt8) (h:s.data.toList=c::r) (hc:c=2) (hm:s.size<=maxLen):
  Calls Tryz.prog 190 #[.string s] w fun e w'=>e= .returned (.tuple #[.agg #[.int .i64 x.k,.int .i64 x.n,.string x.s],.int .i64 (m:Int)])/\Below w.heap.size w w':=by
 subst hc;have hsz:s.size=r.length+1:=by rw[AA,h];simp
 by_cases h8:8<=r.length
 ·have:=Ik s w (by omega) hm
  simp only[h,CH,F6,List.tail_cons,if_pos h8]at this hd;simp at hd;obtain⟨rfl,rfl⟩:=hd;exact this
 ·have:=GR s w (by omega)
  simp only[h,CH,F6,if_neg h8]at hd;simp at hd;obtain⟨rfl,rfl⟩:=hd;exact this
theorem LU (c:UInt8) (n:Nat) (hn:n<256):((c.toNat:Int) == (n:Int))=decide (c=UInt8.ofNat n):=by
 rw[Bool.eq_iff_iff];simp only[beq_iff_eq,decide_eq_true_eq];constructor
 ·intro h
  have h':c.toNat=n:=by omega
  rw[<-h'];simp
 ·intro h
  subst h;simp;omega
set_option maxHeartbeats 1000000
theorem JR (s:ByteArray) (w:World) (x:Vl) (m:Nat) (hd:CH s.data.toList=(x,m)) (hs:0<s.size) (hm:s.size<=maxLen):
  Calls Tryz.prog 144 #[.string s] w fun e w'=>e= .returned (.tuple #[.agg #[.int .i64 x.k,.int .i64 x.n,.string x.s],.int .i64 (m:Int)])/\Below w.heap.size w w':=by
 obtain⟨c,r,h⟩:∃c r,s.data.toList=c::r:=by
  cases e:s.data.toList with
  |nil=>rw[AA,e]at hs;simp at hs
  |cons c r=>exact⟨c,r,rfl⟩
 have h0:s[0]=c:=by
  have:s[0]=s.data.toList[0]'(by rw[<-AA];exact hs):=by simp;rfl
  rw[this];simp only[h];rfl
 have b1:((s[0].toNat:Int) == 1)=decide (c=1):=by rw[h0];exact LU c 1 (by omega)
 have b2:((s[0].toNat:Int) == 2)=decide (c=2):=by rw[h0];exact LU c 2 (by omega)
 have b3:((s[0].toNat:Int) == 3)=decide (c=3):=by rw[h0];exact LU c 3 (by omega)
 have hs':(0:Int)<(s.size:Int):=by omega
 clear h0;have HM:Hid _:=hm
 by_cases c1:c=1
 ·have t1:((s[0].toNat:Int) == 1)=true:=by rw[b1];simp[c1]
  simp only[h,CH,F6,if_pos c1]at hd;simp at hd;obtain⟨rfl,rfl⟩:=hd;clear b1 b2 b3 h c1 hm;go_enter Tryz.func144,Tryz.ntmps144;go_wp2;exact bodyPost_ret (v:= .tuple #[.agg #[.int .i64 0,.int .i64 0,.string ⟨#[]⟩],.int .i64 1]) (by simp[results,Tryz.results144,go_sem]) rfl ⟨rfl,(Below.refl _ _).alloc (Nat.le_refl _) _⟩
 have t1:((s[0].toNat:Int) == 1)=false:=by rw[b1];simp[c1]
 by_cases c2:c=2
 ·have t2:((s[0].toNat:Int) == 2)=true:=by rw[b2];simp[c2]
  have HD:Hid _:=hd;have HE:Hid _:=h;have HC:Hid _:=c2;clear b1 b2 b3 h c1 hm hd c2;go_enter Tryz.func144,Tryz.ntmps144;go_wp2_with fail;refine(IX s _ x m HD.out c r HE.out HC.out HM.out).mono ?_;rintro e w1 ⟨rfl,c3⟩;have q0:=c3.cell (p:=⟨w.heap.size,0,none⟩) (by simp);have q1:=c3.cell (p:=⟨w.heap.size,1,none⟩) (by simp);have q2:=c3.cell (p:=⟨w.heap.size,2,none⟩) (by simp);have f0:=c3.frozen (p:=⟨w.heap.size,0,none⟩) (by simp);have f1:=c3.frozen (p:=⟨w.heap.size,1,none⟩) (by simp);have f2:=c3.frozen (p:=⟨w.heap.size,2,none⟩) (by simp);simp at q0 q1 q2 f0 f1 f2;have hbw:Below w.heap.size w w1:=((Below.refl w.heap.size w).alloc (Nat.le_refl _) _).trans (c3.mono (by simp));clear c3;go_wp2;refine bodyPost_ret (v:= .tuple #[.agg #[.int .i64 x.k,.int .i64 x.n,.string x.s],.int .i64 (m:Int)]) ?_ rfl ⟨rfl,?_⟩
  ·simp[results,Tryz.results144,go_sem,q0,q1,q2]
  ·exact((hbw.setCell (Nat.le_refl _) _).setCell (Nat.le_refl _) _).setCell (Nat.le_refl _) _
 have t2:((s[0].toNat:Int) == 2)=false:=by rw[b2];simp[c2]
 by_cases c3:c=3
 ·have t3:((s[0].toNat:Int) == 3)=true:=by rw[b3];simp[c3]
  have HD:Hid _:=hd;have HE:Hid _:=h;have HC:Hid _:=c3;clear b1 b2 b3 h c1 hm hd c2 c3;go_enter Tryz.func144,Tryz.ntmps144;go_wp2_with fail;refine(L2 s _ x m HD.out c r HE.out HC.out HM.out).mono ?_;rintro e w1 ⟨rfl,c3⟩;have q0:=c3.cell (p:=⟨w.heap.size,0,none⟩) (by simp);have q1:=c3.cell (p:=⟨w.heap.size,1,none⟩) (by simp);have q2:=c3.cell (p:=⟨w.heap.size,2,none⟩) (by simp);have f0:=c3.frozen (p:=⟨w.heap.size,0,none⟩) (by simp);have f1:=c3.frozen (p:=⟨w.heap.size,1,none⟩) (by simp);have f2:=c3.frozen (p:=⟨w.heap.size,2,none⟩) (by simp);simp at q0 q1 q2 f0 f1 f2;have hbw:Below w.heap.size w w1:=((Below.refl w.heap.size w).alloc (Nat.le_refl _) _).trans (c3.mono (by simp));clear c3;go_wp2;refine bodyPost_ret (v:= .tuple #[.agg #[.int .i64 x.k,.int .i64 x.n,.string x.s],.int .i64 (m:Int)]) ?_ rfl ⟨rfl,?_⟩
  ·simp[results,Tryz.results144,go_sem,q0,q1,q2]
  ·exact((hbw.setCell (Nat.le_refl _) _).setCell (Nat.le_refl _) _).setCell (Nat.le_refl _) _
 ·have t3:((s[0].toNat:Int) == 3)=false:=by rw[b3];simp[c3]
  simp only[h,CH,F6,if_neg c1,if_neg c2,if_neg c3]at hd;simp at hd;obtain⟨rfl,rfl⟩:=hd;clear b1 b2 b3 h c1 hm c2 c3;go_enter Tryz.func144,Tryz.ntmps144;go_wp2;exact bodyPost_ret (v:= .tuple #[.agg #[.int .i64 0,.int .i64 0,.string ⟨#[]⟩],.int .i64 0]) (by simp[results,Tryz.results144,go_sem]) rfl ⟨rfl,(Below.refl _ _).alloc (Nat.le_refl _) _⟩
def EL:Nat->List UInt8->Option (List Vl)
 |0,_=>some []
 |f+1,l=>if l.isEmpty then some []else if(CH l).2=0 then none else(EL f (l.drop (CH l).2)).map ((CH l).1::·)
def DU (x:Vl):List Value:=[.int .i64 x.k,.int .i64 x.n,.string x.s]
def Bq (xs:List Vl):List Value:=xs.flatMap DU
theorem UW:(Tryz.prog.info? 24).map (fun i=>(i.zero,i.size,i.bytes))=some (some (.agg #[.int .i64 0,.int .i64 0,.string ⟨#[]⟩]),3,32):=by kernel_rfl
theorem TG (l:List UInt8):(CH l).2<=l.length:=by
 cases l with
 |nil=>simp[CH,F6]
 |cons c r=>
  have h1:=Iw (r.take 41);simp at h1
  by_cases c1:c=1
  ·simp[CH,F6,c1]
  by_cases c2:c=2
  ·by_cases h8:8<=r.length
   ·simp[CH,F6,c2,h8]
   ·simp[CH,F6,c2,h8]
  by_cases c3:c=3
  ·by_cases hz:Cy (r.take 41)=min 41 r.length
   ·simp[CH,F6,c3,hz]
   ·simp[CH,F6,c3,hz];omega
  ·simp[CH,F6,c1,c2,c3]
def SN:Value->Nat
 | .string t=>t.size
 |_=>0
theorem K3 (f:Nat) (l:List UInt8) (h:l=[]):EL f l=some []:=by
 cases f with
 |zero=>rfl
 |succ f=>subst h;rfl
theorem PF (f:Nat) (l:List UInt8) (hf:l.length<=f) (h:l≠[]) (hz:(CH l).2=0):EL f l=none:=by
 cases f with
 |zero=>exact absurd (List.length_eq_zero_iff.1 (by omega)) h
 |succ f=>simp[EL,h,hz]
theorem IY (f:Nat) (l:List UInt8) (hf:l.length<=f) (h:l≠[]) (x:Vl) (m:Nat) (hd:CH l=(x,m)) (hz:m≠0):∃f',(l.drop m).length<=f'/\EL f l=(EL f' (l.drop m)).map (x::·):=by
 cases f with
 |zero=>exact absurd (List.length_eq_zero_iff.1 (by omega)) h
 |succ f=>exact⟨f,by simp;omega,by simp[EL,h,hd,hz]⟩
theorem Nm (xs:List Vl) (x:Vl):Bq (xs++[x])=Bq xs++DU x:=by simp[Bq]
theorem Nn (w:World) (o:Obj) (x:Vl):∀j u,(DU x)[j]? =some u->
  ((w.alloc o).alloc (.cells #[.int .i64 x.k,.int .i64 x.n,.string x.s] 24)).cell? ((⟨w.heap.size+1,0,none⟩:Addr).add j)=some u:=by
 intro j u hj;rw[Go.WideShapes.add_plain];have e:(w.alloc o).heap.size=w.heap.size+1:=by simp
 rw[<-e]
 match j,hj with
 |0,hj=>simp[DU]at hj;subst hj;simp
 |1,hj=>simp[DU]at hj;subst hj;simp
 |2,hj=>simp[DU]at hj;subst hj;simp
 |j+3,hj=>simp[DU]at hj
def JJ (w:World) (out:Option (List Vl)) (e:Ending) (w':World):Prop:=
 Below w.heap.size w w'/\match out with
 |none=>e= .returned (.tuple #[.slice none 0 0,.iface 101 (.int .i64 3)])
 |some xs=>∃v,e= .returned (.tuple #[v,.nilIface])/\w'.ownsRow w.heap.size 24 3 v xs.length (Bq xs)
theorem Kl (s:ByteArray) (w:World) (hs:s.size<=100000):
  Calls Tryz.prog 100 #[.string s] w (JJ w (EL s.size s.data.toList)):=by
 obtain⟨out,hout⟩:∃out,EL s.size s.data.toList=out:=⟨_,rfl⟩;rw[hout];have HO:Hid _:=hout;clear hout;obtain⟨i0,hi,hz0,hz1,hz2⟩:=C4w UW;go_enter Tryz.func100,Tryz.ntmps100;go_wp2
 go_loopw [0,4] (fun sv v wr=>∃(t:ByteArray) (acc:List Vl) (f:Nat),sv= .string t/\t.size+acc.length<=s.size/\wr.ownsRow w.heap.size 24 3 v acc.length (Bq acc)/\Below w.heap.size w wr/\Hid (t.size<=f/\(EL f t.data.toList).map (acc++·)=out))
  (fun sv _ _=>SN sv)
 case atStart=>exact⟨s,[],s.size,rfl,by simp,World.ownsRow_nil _ _ _ _,Below.refl _ _,Nat.le_refl _,by rw[HO.out];simp⟩
 case round=>
  obtain⟨t,acc,f,rfl,hsz,hown,hbl,hf⟩:=hrel;have hbs:=hbl.size
  by_cases hpos:0<t.size
  ·have hpos':(0:Int)<(t.size:Int):=by omega
   obtain⟨p,hd⟩:∃p,CH t.data.toList=p:=⟨_,rfl⟩;obtain⟨x,m⟩:=p;have hle:=TG t.data.toList;rw[hd,<-AA]at hle;simp only at hle;have HD:Hid _:=hd;clear hd;go_wp2_with fail;refine(JR t _ x m HD.out hpos (by unfold maxLen;omega)).mono ?_;rintro e w1 ⟨rfl,hb1⟩;have hown1:=IE hown hb1 (Nat.le_refl _);have hbl1:Below w.heap.size w w1:=hbl.trans (hb1.mono hbs);have hbs1:=hbl1.size;clear hown hbl hb1;have hne:t.data.toList≠[]:=fun e=>by rw[AA,e]at hpos;simp at hpos
   by_cases hm0:m=0
   ·have hmz:((m:Int) == 0)=true:=by simp;omega
    have HN:Hid (out=none):=by
     show _=_;rw[<-hf.out.2,PF f _ (by rw[<-AA];exact hf.out.1) hne (by rw[HD.out];exact hm0)];rfl
    clear hown1 hm0;go_wp2;go_ret2;rw[HN.out];exact⟨(hbl1.alloc hbs1 _),rfl⟩
   ·have hmz:((m:Int) == 0)=false:=by simp;omega
    go_wp2_with (at_builtin;refine wpList_append_own _ rfl (.tmp 18) (.tmp 20) 46 rfl w.heap.size 24 i0 (.agg #[.int .i64 0,.int .i64 0,.string ⟨#[]⟩]) 3 32 Tryz.underlying46 hi hz0 hz1 hz2 rfl (by decide) _ _ _ rfl ((hown1.alloc _).alloc _) ⟨w1.heap.size+1,0,none⟩ 1 1 (DU x) rfl rfl ?c1 ?c2 ?c3 ?c4 ?c5 ?_)
    case c1=>exact Nn _ _ _
    case c2=>intro u hu;simp[DU]at hu;rcases hu with rfl|rfl|rfl<;>rfl
    case c3=>unfold maxLen;omega
    case c4=>omega
    case c5=>simp;omega
    ·intro v2 w2 hown2 hgrow _
     have hb2:Below w.heap.size w w2:=((hbl1.alloc hbs1 _).alloc (by simp;omega) _).grown hgrow (by simp;omega) (fun g hg=>(hown1.lt g hg).1);obtain⟨f',hf1,hf2⟩:=IY f _ (by rw[<-AA];exact hf.out.1) hne x m HD.out hm0;have hdr:(t.extract m t.size).data.toList=t.data.toList.drop m:=Lib.extract_to_end t m;have hsz2:(t.extract m t.size).size=t.size-m:=by rw[AA,hdr,List.length_drop,<-AA]
     have hown3:w2.ownsRow w.heap.size 24 3 v2 (acc++[x]).length (Bq (acc++[x])):=by
      rw[Nm,List.length_append];exact hown2
     have HF:Hid ((t.extract m t.size).size<=f'/\(EL f' (t.extract m t.size).data.toList).map ((acc++[x])++·)=out):=by
      refine⟨by rw[AA,hdr];exact hf1,?_⟩;rw[hdr,<-hf.out.2,hf2];simp[Option.map_map,Function.comp_def]
     have HZ:Hid _:=hsz2;clear hown1 hown2 hgrow hbl1 hf hf1 hf2 hdr hsz2;have hmle:(m:Int)<=(t.size:Int):=by omega
     go_wp2;go_roundw
     case rel=>exact⟨t.extract m t.size,acc++[x],f',rfl,by rw[HZ.out];simp;omega,hown3,hb2,HF.out⟩
     case measure=>show(t.extract m t.size).size<t.size;rw[HZ.out];omega
  ·have hpos':¬(0:Int)<(t.size:Int):=by omega
   have HN:Hid (out=some acc):=by
    show _=_;rw[<-hf.out.2,K3 f _ (List.length_eq_zero_iff.1 (by rw[<-AA];omega))];simp
   go_wp2;go_ret2;rw[HN.out];exact⟨hbl,_,rfl,hown⟩
end
section
open Go.RowKit
open Go.RowKit
end
section
open Go.RowKit Go.Lib
theorem NO (l:List UInt8) (c:UInt8):BS (l++[c])=BS l * 256+c.toNat:=by simp[BS,List.foldl_append]
theorem Sn (u d:Nat):u / (d * 256) * 256+u / d % 256=u / d:=by
 rw[<-Nat.div_div_eq_div_mul];have:=Nat.div_add_mod (u / d) 256;omega
theorem NP (u k:Nat) (hk:k<=8) (hu:u<18446744073709551616):BS (DL u k)=u / 256 ^ (8-k):=by
 induction k with
 |zero=>
  have e:(256:Nat) ^ (8-0)=18446744073709551616:=by decide
  rw[e,Nat.div_eq_of_lt hu];rfl
 |succ k ih=>
  rw[KG,NO,ih (by omega)];have e:8-k=(7-k)+1:=by omega
  have e2:8-(k+1)=7-k:=by omega
  rw[e,e2,Nat.pow_succ];have hc:(UInt8.ofNat (u / 256 ^ (7-k))).toNat=u / 256 ^ (7-k) % 256:=by simp
  rw[hc];exact Sn u _
theorem Tm (u:Nat) (hu:u<18446744073709551616):BS (DL u 8)=u:=by
 rw[NP u 8 (Nat.le_refl _) hu];simp
theorem RN (l:List UInt8) (h:Cy l=l.length):∀c∈l,c≠0:=by
 unfold Cy at h;rw[List.findIdx_eq_length]at h;intro c hc;have:=h c hc;simpa using this
theorem Mf {s:ByteArray} (h:Gm s=true):s.data.toList.length<=40/\∀c∈s.data.toList,c≠0:=by
 unfold Gm at h;simp at h;refine⟨by rw[<-AA];exact h.1,RN _ (by rw[<-AA];exact h.2)⟩
theorem Nb {s:ByteArray} (h:s.toList.isEmpty=true):s=⟨#[]⟩:=by
 rw[ByteArray.toList_eq]at h;apply Dc;simpa using h
theorem Dm {x:Vl} (h:Ba x=true):x=⟨0,0,⟨#[]⟩⟩\/(∃n,x=⟨1,n,⟨#[]⟩⟩)\/∃s,x=⟨2,0,s⟩/\Gm s=true:=by
 obtain⟨k,n,s⟩:=x;unfold Ba Cq at h;simp only at h
 by_cases h0:k=0
 ·subst h0
  simp at h;obtain⟨rfl,h2⟩:=h;obtain rfl:=Nb (s:=s) (by simpa using h2);exact .inl rfl
 ·by_cases h1:k=1
  ·subst h1
   simp at h;obtain rfl:=Nb (s:=s) (by simpa using h);exact .inr (.inl ⟨n,rfl⟩)
  ·by_cases h2:k=2
   ·subst h2
    simp at h;obtain⟨rfl,h2⟩:=h;exact .inr (.inr ⟨s,rfl,h2⟩)
   ·simp[h0,h1,h2]at h
theorem NB {n:Int} (h1: -9223372036854775808<=n) (h2:n<=9223372036854775807):Bz n<18446744073709551616/\(Bz n:Int)=n+9223372036854775808:=by
 unfold Bz;omega
theorem Qd (a p:List UInt8) (hl:a.length<=40) (ha:∀c∈a,c≠0):Cy ((a++0::p).take 41)=a.length:=by
 have e:(a++0::p).take 41=a++0::p.take (40-a.length):=by
  rw[List.take_append,List.take_of_length_le (by omega)];congr 1;rw[show 41-a.length=(40-a.length)+1 by omega,List.take_succ_cons]
 rw[e];unfold Cy;rw[List.findIdx_append]
 have hn:a.findIdx (fun c=>c == 0)=a.length:=by
  rw[List.findIdx_eq_length];intro c hc;simpa using ha c hc
 rw[hn,if_neg (by omega),List.findIdx_cons];simp
theorem N6 (s:ByteArray):An s.data.toList=s:=by
 apply Dc;simp[An]
theorem VC:BD ⟨0,0,⟨#[]⟩⟩=[1]:=by simp[BD,Ou]
theorem VB (n:Int):BD ⟨1,n,⟨#[]⟩⟩=2::DL (Bz n) 8:=by simp[BD,Ou]
theorem VA (s:ByteArray):BD ⟨2,0,s⟩=3::(s.data.toList++[0]):=by simp[BD,Ou]
theorem VH (r:List UInt8):CH (1::r)=(⟨0,0,⟨#[]⟩⟩,1):=by simp[CH,F6]
theorem VG (r:List UInt8) (h:8<=r.length):CH (2::r)=(⟨1,(BS (r.take 8):Int)-9223372036854775808,⟨#[]⟩⟩,9):=by simp[CH,F6,h]
theorem VF (r:List UInt8) (h:¬Cy (r.take 41)=(r.take 41).length):CH (3::r)=(⟨2,0,An (r.take (Cy (r.take 41)))⟩,1+Cy (r.take 41)+1):=by
 have e:F6 (3::r)=if Cy (r.take 41)=(r.take 41).length then none else some (⟨2,0,An (r.take (Cy (r.take 41)))⟩,1+Cy (r.take 41)+1):=rfl;unfold CH;rw[e,if_neg h];rfl
theorem TF (x:Vl) (p:List UInt8) (hr:Ba x=true) (hf:CQ x):CH (BD x++p)=(x,(BD x).length):=by
 have hlow:=hf.low;rcases Dm hr with rfl|⟨n,rfl⟩|⟨s,rfl,hs⟩
 ·rw[VC];exact VH p
 ·have hsh:=NB hlow.1 hlow.2
  simp only at hsh
  have ht:(DL (Bz n) 8++p).take 8=DL (Bz n) 8:=by
   rw[List.take_append,List.take_of_length_le (by rw[Cc];omega)];simp[Cc]
  have h8:8<=(DL (Bz n) 8++p).length:=by simp[Cc]
  have e:((BS (DL (Bz n) 8):Nat):Int)-9223372036854775808=n:=by rw[Tm _ hsh.1,hsh.2];omega
  rw[VB,List.cons_append,VG _ h8,ht,e];simp[Cc]
 ·obtain⟨h1,h2⟩:=Mf hs
  have ht:=Qd s.data.toList p h1 h2
  have hne:¬Cy ((s.data.toList++0::p).take 41)=((s.data.toList++0::p).take 41).length:=by
   rw[ht,List.length_take,List.length_append,List.length_cons];omega
  have e:s.data.toList++[0]++p=s.data.toList++0::p:=by simp
  rw[VA,List.cons_append,e,VF _ hne,ht];simp[N6];omega
theorem TC (x:Vl):∃c r,BD x=c::r:=by
 unfold BD Ou;split
 ·exact⟨_,_,rfl⟩
 ·split
  ·exact⟨_,_,rfl⟩
  ·exact⟨_,_,rfl⟩
theorem Ha (x:Vl) (xs:List Vl):Bp (x::xs)=BD x++Bp xs:=by simp[Bp]
theorem M3 (xs:List Vl) (hr:∀x∈xs,Ba x=true) (hf:∀x∈xs,CQ x):∀f,(Bp xs).length<=f->EL f (Bp xs)=some xs:=by
 induction xs with
 |nil=>intro f _;exact K3 f _ rfl
 |cons x xs ih=>
  intro f hfu;have hd:=TF x (Bp xs) (hr x (by simp)) (hf x (by simp));rw[<-Ha]at hd;obtain⟨c,r,he⟩:=TC x;have hne:Bp (x::xs)≠[]:=by rw[Ha,he];simp
  obtain⟨f',h1,h2⟩:=IY f _ hfu hne x _ hd (by rw[he];simp);have hdrop:(Bp (x::xs)).drop (BD x).length=Bp xs:=by rw[Ha];simp
  rw[hdrop]at h1 h2;rw[h2,ih (fun y hy=>hr y (by simp[hy])) (fun y hy=>hf y (by simp[hy])) f' h1];rfl
theorem EC {x:Vl} (h:Ba x=true):x.s.size<=maxLen:=by
 rcases Dm h with rfl|⟨n,rfl⟩|⟨s,rfl,hs⟩
 ·exact Nat.zero_le _
 ·exact Nat.zero_le _
 ·have:=Es hs
  unfold maxLen;simp only;omega
theorem A0 (l:List UInt8):(An l).data.toList=l:=by simp[An]
theorem Bh (l:List UInt8):(An l).size=l.length:=by rw[AA,A0]
theorem P2 (a b:List UInt8):An a++An b=An (a++b):=by
 apply Dc;simp[An]
theorem Oz (xs:List Vl) (i:Nat) (h:i<xs.length):(Bq xs)[i * 3]? =some (.int .i64 xs[i].k)/\(Bq xs)[i * 3+1]? =some (.int .i64 xs[i].n)/\(Bq xs)[i * 3+2]? =some (.string xs[i].s):=by
 induction xs generalizing i with
 |nil=>simp at h
 |cons x xs ih=>
  cases i with
  |zero=>simp[Bq,DU]
  |succ i=>
   have:=ih i (by simpa using h);have e:Bq (x::xs)= .int .i64 x.k:: .int .i64 x.n:: .string x.s::Bq xs:=by simp[Bq,DU]
   rw[e,show(i+1) * 3=i * 3+3 by omega];simpa using this
theorem EV {w:World} {B:Nat} {v:Value} {xs:List Vl} (h:w.ownsRow B 24 3 v xs.length (Bq xs)) (hs:∀x∈xs,x.s.size<=maxLen) (hl:xs.length<=maxLen):∃a cap,v= .slice a xs.length cap/\BY w a xs.length xs/\(a=none->cap=0):=by
 rcases h.2 with⟨rfl,h0⟩|⟨g,cap,cur,rfl,_,hg,_⟩
 ·have:xs=[]:=List.length_eq_zero_iff.1 h0
  subst this;exact⟨none,0,rfl,⟨rfl,hl,.inl rfl⟩,fun _=>rfl⟩
 ·refine⟨some ⟨g,0,none⟩,cap,rfl,⟨rfl,hl,.inr ⟨g,0,rfl,(Array.getElem?_eq_some_iff.1 hg).1,fun i hi=> ?_⟩⟩,fun e=>by simp at e⟩
  obtain⟨c0,c1,c2⟩:=Oz xs i hi;have k0:=h.cells (g:=g) rfl _ _ c0;have k1:=h.cells (g:=g) rfl _ _ c1;have k2:=h.cells (g:=g) rfl _ _ c2;rw[Go.WideShapes.add_plain]at k0 k1 k2;exact⟨k0,k1,k2,hs _ (List.getElem_mem hi)⟩
end
end Go.Proofs.YtihnldkgeelehaaGreatDoor
