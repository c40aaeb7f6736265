/- StoreFinds: part 4. -/
import Derived.Test.YtihnldkgeelehaaGreatDoorF03
import Derived.Deep.AppendLies
import Derived.Laws.OwnMore
set_option maxRecDepth 100000
set_option maxHeartbeats 4000000
namespace Go.Proofs.YtihnldkgeelehaaGreatDoor
section
open Go.RowKit
theorem A6 (b off i:Nat):(⟨b,off,none⟩:Addr).add i=⟨b,off+i,none⟩:=by
 unfold Addr.add;split<;>simp_all
structure Ao (B:Nat) (v:Value) (xs:List Value) (w:World):Prop where
 is:∃(a:Option Addr) (cap:Nat),v= .slice a xs.length cap/\xs.length<=cap/\cap<=maxLen/\(a=none->cap=0)/\∀ad,a=some ad->∃b off,ad=⟨b,off,none⟩/\B<=b/\b<w.heap.size/\∀i (hi:i<xs.length),w.cell? ⟨b,off+i,none⟩=some xs[i]
section
variable {B:Nat} {v:Value} {xs:List Value} {w w':World}
theorem Ao.of_own {e:TypeId} (h:w.ownsRow B e 1 v xs.length xs):Ao B v xs w:=by
 rcases h.2 with⟨rfl,hn⟩|⟨g,cap,cur,rfl,h1,h2,h3,h4,h5,h6⟩
 ·refine⟨none,0,by rw[hn],by omega,Nat.zero_le _,fun _=>rfl,fun _ e=>by cases e⟩
 ·refine⟨some ⟨g,0,none⟩,cap,rfl,h3,h4,(fun e=>by cases e),fun ad e=> ?_⟩
  cases e
  refine⟨g,0,rfl,h1,(Array.getElem?_eq_some_iff.1 h2).1,fun i hi=> ?_⟩;have:=h.cells (g:=g) rfl i xs[i] (List.getElem?_eq_getElem hi)
  rwa [show(⟨g,0,none⟩:Addr).add i=⟨g,0+i,none⟩ by rw[A6]]at this
theorem Ao.below (h:Ao B v xs w) (hb:Below w.heap.size w w'):Ao B v xs w':=by
 obtain⟨a,cap,h1,h2,h3,h4,h5⟩:=h.is;refine⟨a,cap,h1,h2,h3,h4,fun ad e=> ?_⟩;obtain⟨b,off,k1,k2,k3,k4⟩:=h5 ad e;exact⟨b,off,k1,k2,Nat.lt_of_lt_of_le k3 hb.size,fun i hi=>(hb.cell (p:=⟨b,off+i,none⟩) k3).trans (k4 i hi)⟩
theorem Ao.only {S:Nat->Prop} (h:Ao B v xs w) (ho:Aa S w w') (hS:∀b,S b->b<B):Ao B v xs w':=by
 obtain⟨a,cap,h1,h2,h3,h4,h5⟩:=h.is;refine⟨a,cap,h1,h2,h3,h4,fun ad e=> ?_⟩;obtain⟨b,off,k1,k2,k3,k4⟩:=h5 ad e;exact⟨b,off,k1,k2,Nat.lt_of_lt_of_le k3 ho.size,fun i hi=>(ho.cell k3 (fun s=>by have:=hS b s;omega) (off+i)).trans (k4 i hi)⟩
theorem Ao.drew (h:Ao B v xs w):Ao B v xs w.drew:=h.below (Below.refl _ w).drew
theorem Ao.mono {C:Nat} (h:Ao B v xs w) (hC:C<=B):Ao C v xs w:=by
 obtain⟨a,cap,h1,h2,h3,h4,h5⟩:=h.is;refine⟨a,cap,h1,h2,h3,h4,fun ad e=> ?_⟩;obtain⟨b,off,k1,k2,k3,k4⟩:=h5 ad e;exact⟨b,off,k1,Nat.le_trans hC k2,k3,k4⟩
theorem Ao.sliced {a:Option Addr} {cap:Nat} (h:Ao B (.slice a xs.length cap) xs w) (i j:Nat) (hij:i<=j) (hj:j<=xs.length):Ao B (Go.sliced a i j cap 1) ((xs.drop i).take (j-i)) w:=by
 obtain⟨a',cap',e,h2,h3,h4,h5⟩:=h.is
 cases e
 have hl:((xs.drop i).take (j-i)).length=j-i:=by rw[List.length_take,List.length_drop];omega
 unfold Go.sliced
 by_cases hc:cap=i
 ·rw[if_pos hc]
  refine⟨a,cap-i,by rw[hl],by omega,by omega,fun e=>by have:=h4 e;omega,fun ad e=> ?_⟩;obtain⟨b,off,k1,k2,k3,k4⟩:=h5 ad e;exact⟨b,off,k1,k2,k3,fun k hk=>absurd hk (by omega)⟩
 ·rw[if_neg hc]
  refine⟨a.map (·.add (i * 1)),cap-i,by rw[hl],by omega,by omega,fun e=> ?_,fun ad e=> ?_⟩
  ·cases a with
   |none=>have:=h4 rfl;omega
   |some _=>cases e
  ·cases a with
   |none=>cases e
   |some a0=>
    obtain⟨b,off,rfl,k2,k3,k4⟩:=h5 a0 rfl
    cases e
    refine⟨b,off+i,by show(⟨b,off,none⟩:Addr).add (i * 1)=_;rw[A6,Nat.mul_one],k2,k3,fun k hk=> ?_⟩;have:=k4 (i+k) (by omega);rw[Nat.add_assoc,this];simp
theorem Ao.len (h:Ao B v xs w) {t e:TypeId} (ht:Tryz.prog.underlying t=some (.slice e)) (ty:TypeId) (wx:World):(Builtin.len_ #[t] ty #[v]).run Tryz.prog wx= .ok (.int .i64 (xs.length:Nat)) wx:=by
 obtain⟨a,cap,rfl,_⟩:=h.is;simp[Builtin.len_,run_underlying ht,goInt]
theorem Ao.cut (h:Ao B v xs w) (i j:Nat) (hij:i<=j) (hj:j<=xs.length):∃v',Ao B v' ((xs.drop i).take (j-i)) w/\
  (∀ {t e:TypeId},Tryz.prog.underlying t=some (.slice e)->Tryz.prog.elem t=e->(Tryz.prog.info? e).map (·.size)=some 1->∀(x y:Int),x=i->y=j->∀wx,(Instr.slice t v (some (.int .i64 x)) (some (.int .i64 y)) none).run Tryz.prog wx= .ok v' wx/\
    (i=0->(Instr.slice t v none (some (.int .i64 y)) none).run Tryz.prog wx= .ok v' wx)/\(j=xs.length->(Instr.slice t v (some (.int .i64 x)) none none).run Tryz.prog wx= .ok v' wx)):=by
 obtain⟨a,cap,rfl,h2,h3,h4,h5⟩:=h.is;refine⟨_,h.sliced i j hij hj,?_⟩;intro t e ht he hs x y hx hy wx;subst hx hy he
 have hz:(sizeOf (Tryz.prog.elem t)).run Tryz.prog wx= .ok 1 wx:=by
  cases hq:Tryz.prog.info? (Tryz.prog.elem t)with
  |none=>rw[hq]at hs;cases hs
  |some i=>rw[hq]at hs;simp[sizeOf,typeInfo,hq];simpa using hs
 refine⟨?_,fun e=> ?_,fun e=> ?_⟩
 ·rw[run_slice_lh wx t a _ cap ht .i64 .i64 i j (by omega) (by omega) (by omega),hz]
  rfl
 ·subst e
  rw[run_slice_h wx t a _ cap ht .i64 j (by omega) (by omega),hz];rfl
 ·subst e
  rw[run_slice_l wx t a _ cap ht .i64 i (by omega) (by omega),hz];rfl
theorem Ao.at (h:Ao B v xs w) {i:Nat} (hi:i<xs.length):∃b off,B<=b/\b<w.heap.size/\w.cell? ⟨b,off,none⟩=some xs[i]/\
  ∀ {t e:TypeId},Tryz.prog.underlying t=some (.slice e)->Tryz.prog.elem t=e->(Tryz.prog.info? e).map (·.size)=some 1->∀x:Int,x=i->∀wx,(Instr.indexAt t v (.int .i64 x)).run Tryz.prog wx= .ok (.pointer (some ⟨b,off,none⟩)) wx:=by
 obtain⟨a,cap,rfl,h2,h3,h4,h5⟩:=h.is
 cases a with
 |none=>have:=h4 rfl;omega
 |some a0=>
  obtain⟨b,off,rfl,k2,k3,k4⟩:=h5 a0 rfl;refine⟨b,off+i,k2,k3,k4 i hi,?_⟩;intro t e ht he hs x hx wx;subst hx he
  have hz:(sizeOf (Tryz.prog.elem t)).run Tryz.prog wx= .ok 1 wx:=by
   cases hq:Tryz.prog.info? (Tryz.prog.elem t)with
   |none=>rw[hq]at hs;cases hs
   |some i=>rw[hq]at hs;simp[sizeOf,typeInfo,hq];simpa using hs
  have h7:(i:Int)<(xs.length:Int):=by omega
  rw[run_indexAt_slice (h:=ht),if_pos ⟨by omega,h7⟩,hz];simp[Result.andThen,A6]
end
def BA (l:List ByteArray) (s:ByteArray):List ByteArray:=
 match l.getLast? with
 |none=>[s]
 |some x=>if x.size+s.size<=1024 then l.dropLast++[x++s]else l++[s]
def DM (ts:List ByteArray):List ByteArray:=ts.foldl BA []
theorem Du {ts:List ByteArray} {k:Nat} (hk:k<ts.length):DM (ts.take (k+1))=BA (DM (ts.take k)) ts[k]:=by
 unfold DM;rw[List.take_succ_eq_append_getElem hk,List.foldl_append];rfl
theorem LJ (l:List ByteArray) (s:ByteArray):(BA l s).length<=l.length+1:=by
 unfold BA
 cases h:l.getLast? with
 |none=>simp
 |some x=>
  simp only[];split
  ·rw[List.length_append,List.length_dropLast];simp
  ·rw[List.length_append];simp
theorem Jv {l:List ByteArray} {s:ByteArray} (hl:∀x∈l,x.size<=2000) (hs:s.size<=2000):∀x∈BA l s,x.size<=2000:=by
 unfold BA
 cases h:l.getLast? with
 |none=>intro x hx;simp at hx;subst hx;exact hs
 |some y=>
  simp only[];split
  ·rename_i e
   intro x hx;rw[List.mem_append]at hx;rcases hx with hx|hx
   ·exact hl x (List.dropLast_subset l hx)
   ·simp at hx;subst hx;rw[ByteArray.size_append];omega
  ·intro x hx
   rw[List.mem_append]at hx;rcases hx with hx|hx
   ·exact hl x hx
   ·simp at hx;subst hx;exact hs
theorem Hb (ts:List ByteArray):∀k,(DM (ts.take k)).length<=k
 |0=>Nat.le_refl _
 |k+1=>by
  by_cases hk:k<ts.length
  ·rw[Du hk]
   have:=LJ (DM (ts.take k)) ts[k];have:=Hb ts k;omega
  ·rw[List.take_of_length_le (by omega)]
   have:=Hb ts k;rw[List.take_of_length_le (by omega)]at this;omega
theorem Ff {ts:List ByteArray} (h:∀x∈ts,x.size<=2000):∀k,∀x∈DM (ts.take k),x.size<=2000
 |0=>fun x hx=>by simp[DM]at hx
 |k+1=>by
  by_cases hk:k<ts.length
  ·rw[Du hk]
   exact Jv (Ff h k) (h _ (List.getElem_mem hk))
  ·rw[List.take_of_length_le (by omega)]
   have:=Ff h k;rw[List.take_of_length_le (by omega)]at this;exact this
theorem Cl.view {B:Nat} {v:Value} {ts:List ByteArray} {w:World} (h:Cl B v ts w):Ao B v (ts.map Value.string) w:=
 Ao.of_own (e:=9) (by rw[List.length_map];exact h)
theorem AP:Tryz.prog.elem 85=9:=by kernel_rfl
theorem B7:(Tryz.prog.info? 9).map (·.size)=some 1:=by kernel_rfl
theorem C6:Tryz.prog.elem 69=3:=by kernel_rfl
theorem DD:(Tryz.prog.info? 3).map (·.size)=some 1:=by kernel_rfl
theorem MQ:∃i0:TypeInfo,Tryz.prog.info? 9=some i0/\i0.zero=some (.string ⟨#[]⟩)/\i0.size=1/\i0.bytes=16:=by
 have h:(Tryz.prog.info? 9).map (fun i=>(i.zero,i.size,i.bytes))=some (some (.string ⟨#[]⟩),1,16):=by kernel_rfl
 cases hq:Tryz.prog.info? 9 with
 |none=>rw[hq]at h;cases h
 |some i=>
  rw[hq]at h;simp at h;exact⟨i,rfl,h.1,h.2.1,h.2.2⟩
theorem MR:∃i0:TypeInfo,Tryz.prog.info? 3=some i0/\i0.zero=some (.int .i64 0)/\i0.size=1/\i0.bytes=8:=by
 have h:(Tryz.prog.info? 3).map (fun i=>(i.zero,i.size,i.bytes))=some (some (.int .i64 0),1,8):=by kernel_rfl
 cases hq:Tryz.prog.info? 3 with
 |none=>rw[hq]at h;cases h
 |some i=>
  rw[hq]at h;simp at h;exact⟨i,rfl,h.1,h.2.1,h.2.2⟩
theorem Fd (w:World) (x:ByteArray) (t:TypeId):∀j u,([Value.string x]:List Value)[j]? =some u->(w.alloc (.cells #[.string x] t)).cell? ((⟨w.heap.size,0,none⟩:Addr).add j)=some u:=by
 intro j u hu;have hn:(w.alloc (.cells #[.string x] t)).heap[w.heap.size]? =some (.cells #[.string x] t):=heap_alloc_new w _
 cases j with
 |zero=>simp at hu;subst hu;rw[A6];simp only[World.cell?,hn];rfl
 |succ j=>simp at hu
theorem RS {B:Nat} {v:Value} {ts:List ByteArray} (w:World) (hV:Ao B v (ts.map Value.string) w) (hs:∀x∈ts,x.size<=2000) (hn:ts.length<=1000):
  Calls Tryz.prog 178 #[v] w fun e w'=>∃v',e= .returned v'/\Cl w.heap.size v' (DM ts) w'/\Below w.heap.size w w':=by
 have hlen:=hV.len Tryz.underlying85;rw[List.length_map]at hlen;have HV:Hid _:=hV;have HS:Hid _:=hs;clear hV hs;go_enter Tryz.func178,Tryz.ntmps178;go_wp2_with fail;go_loopw [3,9] (fun l i wr=>∃k:Nat,k<=ts.length/\i= .int .i64 k/\Hid (Cl w.heap.size l (DM (ts.take k)) wr)/\Hid (Below w.heap.size w wr)) (fun _ i _=>ts.length-(intOf i).toNat)
 case atStart=>exact⟨0,Nat.zero_le _,rfl,World.ownsRow_nil _ _ _ _,Below.refl _ _⟩
 case round=>
  obtain⟨k,hk,rfl,HR,HB⟩:=hrel
  by_cases hlt:k<ts.length
  ·have h1:(k:Int)<(ts.length:Int):=by omega
   obtain⟨b0,o0,k1,k2,k3,k4⟩:=(HV.out.below HB.out).at (i:=k) (by rw[List.length_map];exact hlt);have hix:=k4 Tryz.underlying85 AP B7 (k:Int) rfl;rw[List.getElem_map]at k3;have hsk:=HS.out _ (List.getElem_mem hlt);have HJ:Hid (DM (ts.take (k+1))=BA (DM (ts.take k)) ts[k]):=Du hlt;have hjl:=Hb ts k;have HSM:Hid _:=Ff HS.out k;obtain⟨x,hx⟩:∃x,ts[k]=x:=⟨_,rfl⟩;rw[hx]at k3 hsk HJ;obtain⟨L,hL⟩:∃L,DM (ts.take k)=L:=⟨_,rfl⟩;rw[hL]at HR HJ hjl HSM;clear hx hL k1 k2 k4;have hln:=(Cl.view HR.out).len Tryz.underlying85;rw[List.length_map]at hln;obtain⟨i0,hi,hz0,hz1,hz2⟩:=MQ;rcases List.eq_nil_or_concat L with rfl|⟨M,y,rfl⟩
   ·have HO2:Hid _:=HR.out.alloc (.cells #[.string x] 9)
    go_wp2_with (at_builtin;refine wpList_append_own _ rfl _ _ 85 rfl w.heap.size 9 i0 (.string ⟨#[]⟩) 1 16 Tryz.underlying85 hi hz0 hz1 hz2 rfl (by decide) _ _ _ rfl HO2.out ⟨wr.heap.size,0,none⟩ 1 1 [.string x] rfl rfl (Fd wr x 9) (by intro u hu;simp at hu;subst hu;rfl) (by simp[maxLen]) (by simp) (by have:=HB.out.size;simp;omega) ?_;intro v' w' hO hG hN)
    refine⟨⟨k+1,by omega,by go_num,?_,?_⟩,by simp[intOf];omega⟩
    ·show Cl _ _ _ _
     rw[HJ.out];exact hO
    ·exact(HB.out.alloc HB.out.size _).grown hG (by have:=HB.out.size;simp;omega) (fun k e=>(HR.out.lt k e).1)
   ·have hy:=HSM.out y (by simp)
    have HJ2:Hid (BA (M++[y]) x=if y.size+x.size<=1024 then M++[y++x]else(M++[y])++[x]):=by
     show BA (M++[y]) x=_;unfold BA;simp
    rw[List.concat_eq_append]at HR hjl hln;have hml:(M++[y]).length=M.length+1:=by simp
    rw[hml]at hln hjl;obtain⟨g,cap,hv,hg1,hg2⟩:=HR.out.form (by rw[hml];omega);subst hv;rw[hml]at hln
    have c0:wr.cell? ⟨g,M.length,none⟩=some (.string y):=by
     have:=HR.out.cellAt M.length (by rw[hml];omega);rw[this];simp
    have f0:=HR.out.frozenAt M.length;obtain⟨st1,st2⟩:=HR.out.stored M.length (.string (y++x))
    have HST:Hid (Cl w.heap.size (.slice (some ⟨g,0,none⟩) (M++[y]).length cap) (M++[y++x]) (wr.setCell ⟨g,M.length,none⟩ (.string (y++x)))):=by
     have e:(List.map Value.string (M++[y])).set M.length (.string (y++x))=List.map Value.string (M++[y++x]):=by
      rw[List.map_append,List.map_append];have:(List.map Value.string M).length=M.length:=List.length_map _;rw[List.set_append_right _ _ (by rw[this];omega),this,Nat.sub_self];rfl
     rw[e]at st1;show World.ownsRow _ _ _ _ _ _ _;have e2:(M++[y++x]).length=(M++[y]).length:=by simp
     rw[e2];exact st1
    have HB2:Hid (Below w.heap.size w (wr.setCell ⟨g,M.length,none⟩ (.string (y++x)))):=HB.out.setCell hg1 _;clear st1 st2;rw[hml]at HST HR;rw[hml];generalize M.length=m at *
    by_cases hle:y.size+x.size<=1024
    ·have hle2:(y.size:Int)+(x.size:Int)<=1024:=by omega
     have HJ3:Hid (DM (ts.take (k+1))=M++[y++x]):=by
      show _=_;rw[HJ.out,List.concat_eq_append,HJ2.out,if_pos hle]
     clear HJ HJ2 HR HB;go_wp2_with fail;go_roundw
     case rel=>exact⟨k+1,by omega,by go_num,by rw[HJ3.out];exact HST.out,HB2⟩
     case measure=>simp[intOf];omega
    ·have hle2:¬(y.size:Int)+(x.size:Int)<=1024:=by omega
     have HJ3:Hid (DM (ts.take (k+1))=(M++[y])++[x]):=by
      show _=_;rw[HJ.out,List.concat_eq_append,HJ2.out,if_neg hle]
     have HO2:Hid _:=HR.out.alloc (.cells #[.string x] 9);clear HJ HJ2 HST HB2
     go_wp2_with (at_builtin;refine wpList_append_own _ rfl _ _ 85 rfl w.heap.size 9 i0 (.string ⟨#[]⟩) 1 16 Tryz.underlying85 hi hz0 hz1 hz2 rfl (by decide) _ _ _ rfl HO2.out ⟨wr.heap.size,0,none⟩ 1 1 [.string x] rfl rfl (Fd wr x 9) (by intro u hu;simp at hu;subst hu;rfl) (by rw[hml];simp only[maxLen];omega) (by rw[hml];omega) (by have:=HB.out.size;simp;omega) ?_;intro v' w' hO hG hN)
     refine⟨⟨k+1,by omega,by go_num,?_,?_⟩,by simp[intOf];omega⟩
     ·show Cl _ _ _ _
      rw[HJ3.out];show World.ownsRow _ _ _ _ _ _ _;rw[List.map_append,List.length_append];exact hO
     ·exact(HB.out.alloc HB.out.size _).grown hG (by have:=HB.out.size;simp;omega) (fun k e=>by cases e;exact hg1)
  ·have h1:¬(k:Int)<(ts.length:Int):=by omega
   obtain rfl:k=ts.length:=by omega
   rw[List.take_length]at HR;go_wp2;go_ret;exact⟨_,rfl,HR.out,HB.out⟩
def D5 (B:Nat) (v:Value) (ks:List Nat) (w:World):Prop:=w.ownsRow B 3 1 v ks.length (ks.map fun k=>Value.int .i64 (k:Nat))
def At (ks:List Nat):List Value:=ks.map fun k=>Value.int .i64 (k:Nat)
theorem D5.view {B:Nat} {v:Value} {ks:List Nat} {w:World} (h:D5 B v ks w):Ao B v (At ks) w:=
 Ao.of_own (e:=3) (by unfold At;rw[List.length_map];exact h)
theorem Ak (ks:List Nat):(At ks).length=ks.length:=List.length_map _
theorem DN {ks:List Nat} {k:Nat} (hk:k<ks.length):(At ks)[k]'(by rw[Ak];exact hk)=Value.int .i64 (ks[k]:Nat):=List.getElem_map _
def DA:List Nat->List UInt8
 | []=>[]
 |k::r=>UInt8.ofNat (k / 256)::UInt8.ofNat (k % 256)::DA r
theorem Dj:∀ks,(DA ks).length=2 * ks.length
 | []=>rfl
 |k::r=>by rw[DA,List.length_cons,List.length_cons,Dj r,List.length_cons];omega
theorem Hm:∀a b,DA (a++b)=DA a++DA b
 | [],_=>rfl
 |k::r,b=>by rw[List.cons_append,DA,DA,Hm r b];rfl
def F5 (ks:List Nat):ByteArray:=⟨(DA ks).toArray⟩
def u8s (l:List UInt8):List Value:=l.map fun b=>Value.int .u8 (b.toNat:Nat)
def Ea (B:Nat) (v:Value) (l:List UInt8) (w:World):Prop:=w.ownsRow B 5 1 v l.length (u8s l)
theorem US:∃i0:TypeInfo,Tryz.prog.info? 5=some i0/\i0.zero=some (.int .u8 0)/\i0.size=1/\i0.bytes=1:=by
 have h:=Uj
 cases hq:Tryz.prog.info? 5 with
 |none=>rw[hq]at h;cases h
 |some i=>
  rw[hq]at h;simp at h;exact⟨i,rfl,h.1,h.2.1,h.2.2⟩
theorem G3 (w:World) (x y:Value) (t:TypeId):∀j u,([x,y]:List Value)[j]? =some u->(w.alloc (.cells #[x,y] t)).cell? ((⟨w.heap.size,0,none⟩:Addr).add j)=some u:=by
 intro j u hu;have hn:(w.alloc (.cells #[x,y] t)).heap[w.heap.size]? =some (.cells #[x,y] t):=heap_alloc_new w _
 match j with
 |0=>simp at hu;subst hu;rw[A6];simp only[World.cell?,hn];rfl
 |1=>simp at hu;subst hu;rw[A6];simp only[World.cell?,hn];rfl
 |j+2=>simp at hu
theorem Bs (w:World) (x:Value) (t:TypeId):∀j u,([x]:List Value)[j]? =some u->(w.alloc (.cells #[x] t)).cell? ((⟨w.heap.size,0,none⟩:Addr).add j)=some u:=by
 intro j u hu;have hn:(w.alloc (.cells #[x] t)).heap[w.heap.size]? =some (.cells #[x] t):=heap_alloc_new w _
 cases j with
 |zero=>simp at hu;subst hu;rw[A6];simp only[World.cell?,hn];rfl
 |succ j=>simp at hu
theorem Fu {B:Nat} {v:Value} {l:List UInt8} {w:World} (h:Ea B v l w) (hl:l≠[]):(convert 199 9 v).run Tryz.prog w= .ok (.string ⟨l.toArray⟩) w:=by
 have hp:0<l.length:=List.length_pos_iff.2 hl;obtain⟨g,cap,rfl,h1,h2⟩:=World.ownsRow.form h hp
 have:=run_convert_bytes_back (P:=Tryz.prog) w 199 9 5 ⟨g,0,none⟩ cap l Tryz.underlying199 Tryz.underlying5 Tryz.underlying9 (fun j hj=>by
  rw[A6,Nat.zero_add];have:=World.ownsRow.cellAt h j (by omega);rw[this];unfold u8s;rw[List.getElem?_map,List.getElem?_eq_getElem hj];rfl)
 exact this
theorem Ld {B:Nat} {v:Value} {ks:List Nat} (w:World) (hV:Ao B v (At ks) w) (hk:∀k∈ks,k<2000) (hn:ks.length<=1000) (h0:ks≠[]):
  Calls Tryz.prog 211 #[v] w fun e w'=>e= .returned (.string (F5 ks))/\Below w.heap.size w w':=by
 have hlen:=hV.len Tryz.underlying69;rw[Ak]at hlen;have HV:Hid _:=hV;have HK:Hid _:=hk;have H0:Hid _:=h0;clear hV hk h0;go_enter Tryz.func211,Tryz.ntmps211;go_wp2_with fail;go_loopw [3,8] (fun l i wr=>∃k:Nat,k<=ks.length/\i= .int .i64 k/\Hid (Ea w.heap.size l (DA (ks.take k)) wr)/\Hid (Below w.heap.size w wr)) (fun _ i _=>ks.length-(intOf i).toNat)
 case atStart=>exact⟨0,Nat.zero_le _,rfl,World.ownsRow_nil _ _ _ _,Below.refl _ _⟩
 case round=>
  obtain⟨k,hk,rfl,HR,HB⟩:=hrel
  by_cases hlt:k<ks.length
  ·have h1:(k:Int)<(ks.length:Int):=by omega
   obtain⟨b0,o0,k1,k2,k3,k4⟩:=(HV.out.below HB.out).at (i:=k) (by rw[Ak];exact hlt);have hix:=k4 Tryz.underlying69 C6 DD (k:Int) rfl;rw[DN hlt]at k3;have hsk:=HK.out _ (List.getElem_mem hlt)
   have HJ:Hid (DA (ks.take (k+1))=DA (ks.take k)++[UInt8.ofNat (ks[k] / 256),UInt8.ofNat (ks[k] % 256)]):=by
    show _=_;rw[List.take_succ_eq_append_getElem hlt,Hm];rfl
   have hll:(DA (ks.take k)).length=2 * k:=by rw[Dj,List.length_take];omega
   obtain⟨x,hx⟩:∃x,ks[k]=x:=⟨_,rfl⟩;rw[hx]at k3 hsk HJ;obtain⟨L,hL⟩:∃L,DA (ks.take k)=L:=⟨_,rfl⟩;rw[hL]at HR HJ hll;clear hx hL k1 k2 k4;obtain⟨i0,hi,hz0,hz1,hz2⟩:=US
   have HW:Hid ([Value.int .u8 ((x:Int) / 256),.int .u8 ((x:Int) % 256)]=u8s [UInt8.ofNat (x / 256),UInt8.ofNat (x % 256)]):=by
    show _=_;unfold u8s;have e1:(UInt8.ofNat (x / 256)).toNat=x / 256:=Gn (by omega);have e2:(UInt8.ofNat (x % 256)).toNat=x % 256:=by rw[UInt8.toNat_ofNat'];omega
    simp only[List.map_cons,List.map_nil,e1,e2];congr 1
   have HO2:Hid _:=World.ownsRow.alloc HR.out (.cells #[.int .u8 ((x:Int) / 256),.int .u8 ((x:Int) % 256)] 5);have hx1:((x:Int) / 256) % 256=(x:Int) / 256:=by omega
   go_wp2_with (at_builtin;refine wpList_append_own _ rfl _ _ 199 rfl w.heap.size 5 i0 (.int .u8 0) 1 1 Tryz.underlying199 hi hz0 hz1 hz2 rfl (by decide) _ _ _ rfl HO2.out ⟨wr.heap.size,0,none⟩ 2 2 [.int .u8 ((x:Int) / 256),.int .u8 ((x:Int) % 256)] rfl rfl (G3 wr _ _ 5) (by intro u hu;simp at hu;rcases hu with rfl|rfl<;>rfl) (by rw[hll];simp only[maxLen];omega) (by rw[hll];omega) (by have:=HB.out.size;simp;omega) ?_;intro v' w' hO hG hN)
   refine⟨⟨k+1,by omega,by go_num,?_,?_⟩,by simp[intOf];omega⟩
   ·show Ea _ _ _ _
    rw[HJ.out];show World.ownsRow _ _ _ _ _ _ _;rw[List.length_append,show u8s (L++[UInt8.ofNat (x / 256),UInt8.ofNat (x % 256)])=u8s L++u8s [UInt8.ofNat (x / 256),UInt8.ofNat (x % 256)]from List.map_append,<-HW.out];exact hO
   ·exact(HB.out.alloc HB.out.size _).grown hG (by have:=HB.out.size;simp;omega) (fun k e=>(World.ownsRow.lt HR.out k e).1)
  ·have h1:¬(k:Int)<(ks.length:Int):=by omega
   obtain rfl:k=ks.length:=by omega
   rw[List.take_length]at HR;have hcv:=Fu HR.out (by intro e;have:=Dj ks;rw[e]at this;exact H0.out (List.length_eq_zero_iff.1 (by have h9:0=2 * ks.length:=this;omega)));go_wp2;go_ret;exact⟨rfl,HB.out⟩
theorem QY {R:ByteArray} {k:Nat} {r:List Nat} {z:Nat} (h:R.data.toList=DA (k::r)++List.replicate z 0) (hk:k<2000):∃h0:1<R.size,(R[0]'(by omega)).toNat=k / 256/\(R[1]).toNat=k % 256/\(R.extract 2 R.size).data.toList=DA r++List.replicate z 0/\(R.extract 2 R.size).size+2=R.size:=by
 have hl:=congrArg List.length h;rw[Array.length_toList,List.length_append,Dj,List.length_replicate,List.length_cons]at hl;have hs:R.size=2 * (r.length+1)+z:=hl;have d:R.data.toList.drop 0=UInt8.ofNat (k / 256)::UInt8.ofNat (k % 256)::(DA r++List.replicate z 0):=by rw[List.drop_zero,h];rfl
 refine⟨by omega,?_,?_,?_,?_⟩
 ·have:=Cf (t:=R) (a:=0) (b:=0) d rfl (by omega)
  have e:R[0]'(by omega)=UInt8.ofNat (k / 256):=this;rw[e];exact Gn (by omega)
 ·have:=Cf (t:=R) (a:=0) (b:=1) d rfl (by omega)
  have e:R[1]'(by omega)=UInt8.ofNat (k % 256):=this;rw[e,UInt8.toNat_ofNat'];omega
 ·rw[ByteArray.data_extract,Array.toList_extract,List.extract_eq_take_drop,h]
  show((DA r++List.replicate z 0).take (R.size-2))=_;rw[List.take_of_length_le (by rw[List.length_append,Dj,List.length_replicate];omega)]
 ·rw[ByteArray.size_extract];omega
theorem QX {R:ByteArray} {z:Nat} (h:R.data.toList=List.replicate z 0) (h1:1<R.size):(R[0]'(by omega)).toNat=0/\(R[1]).toNat=0:=by
 have hl:=congrArg List.length h;rw[Array.length_toList,List.length_replicate]at hl;have hs:R.size=z:=hl;have d:R.data.toList.drop 0=List.replicate z 0:=by rw[List.drop_zero,h]
 constructor
 ·have e:R[0]'(by omega)=0:=Cf (t:=R) (a:=0) (b:=0) d (by rw[List.getElem?_replicate,if_pos (by omega)]) (by omega)
  rw[e];rfl
 ·have e:R[1]'(by omega)=0:=Cf (t:=R) (a:=0) (b:=1) d (by rw[List.getElem?_replicate,if_pos (by omega)]) (by omega)
  rw[e];rfl
theorem IQ (t:ByteArray) (a:Nat) (h:a<=t.size) (w:World):(Instr.slice 9 (.string t) (some (.int .i64 (a:Nat))) none none).run Tryz.prog w= .ok (.string (t.extract a t.size)) w:=by
 simp[Instr.slice,Instr.sliceBounds,Instr.sliceBound,asIntOf,run_underlying Tryz.underlying9,go_sem];intro hc;omega
theorem A4 {B:Nat} {w w':World} (h:Below B w w') (k:Nat):Below B w (w'.drewN k):=⟨h.os,h.tape,h.output,h.size,h.block⟩
theorem KB {w:World} {base:Nat} {e:TypeId} {size:Nat} {v:Value} {n:Nat} {xs:List Value} (h:w.ownsRow base e size v n xs) (k:Nat):(w.drewN k).ownsRow base e size v n xs:=by
 have hh:(w.drewN k).heap=w.heap:=by simp
 unfold World.ownsRow at h ⊢;rw[hh];exact h
def ST:Value->Nat
 | .string s=>s.size
 |_=>0
theorem M5 {s:ByteArray} {ks:List Nat} {z:Nat} (w:World) (hs:s.data.toList=DA ks++List.replicate z 0) (hk:∀k∈ks,0<k/\k<2000) (hm:s.size<=4096):
  Calls Tryz.prog 200 #[.string s] w fun e w'=>∃v,e= .returned v/\D5 w.heap.size v ks w'/\Below w.heap.size w w':=by
 have HS:Hid _:=hs;have HK:Hid _:=hk;clear hs hk;go_enter Tryz.func200,Tryz.ntmps200;go_wp2_with fail;go_loopw [0,2] (fun t l wr=>∃(j:Nat) (R:ByteArray),j<=ks.length/\R.size<=4096/\t= .string R/\Hid (R.data.toList=DA (ks.drop j)++List.replicate z 0)/\Hid (D5 w.heap.size l (ks.take j) wr)/\Hid (Below w.heap.size w wr)) (fun t _ _=>ST t)
 case atStart=>exact⟨0,s,Nat.zero_le _,hm,rfl,HS,World.ownsRow_nil _ _ _ _,Below.refl _ _⟩
 case round=>
  obtain⟨j,R,hj,hR,rfl,HD,HR,HB⟩:=hrel
  by_cases hlt:j<ks.length
  ·have hd:=HD.out
   rw[List.drop_eq_getElem_cons hlt]at hd;have hkk:=HK.out _ (List.getElem_mem hlt);obtain⟨g1,g2,g3,g4,g5⟩:=QY hd hkk.2;have HT:Hid (ks.take (j+1)=ks.take j++[ks[j]]):=List.take_succ_eq_append_getElem hlt;have hll:(ks.take j).length=j:=by rw[List.length_take];omega
   have h1:(1:Int)<(R.size:Int):=by omega
   have h0:(0:Int)<(R.size:Int):=by omega
   have hkl:j<=4096:=by
    have:=congrArg List.length HD.out;rw[Array.length_toList,List.length_append,Dj,List.length_drop]at this;have h7:R.size=2 * (ks.length-j)+(List.replicate z (0:UInt8)).length:=this;have h8:=congrArg List.length HS.out;rw[Array.length_toList,List.length_append,Dj]at h8;have h9:s.size=2 * ks.length+(List.replicate z (0:UInt8)).length:=h8;omega
   obtain⟨p,q,hp,hq,hpq⟩:∃p q:Nat,ks[j] / 256=p/\ks[j] % 256=q/\ks[j]=p * 256+q:=⟨_,_,rfl,rfl,by omega⟩;rw[hp]at g2;rw[hq]at g3;have hp8:p<8:=by omega
   have hq8:q<256:=by omega
   have HPQ:Hid (ks[j]=p * 256+q):=hpq;have hnz:¬(p * 256+q:Int)=0:=by have:=hkk.1;omega
   have b0:∀w,(Instr.index 9 (.string R) (.int .i64 0)).run Tryz.prog w= .ok (.int .u8 (p:Nat)) w:=fun w=>B9 R 0 (by omega) p g2 w;have b1:∀w,(Instr.index 9 (.string R) (.int .i64 1)).run Tryz.prog w= .ok (.int .u8 (q:Nat)) w:=fun w=>B9 R 1 g1 q g3 w;have HD2:Hid _:=g4;have HD3:Hid _:=g5
   have HOR:Hid (bits BinOp.or IntKind.i64 ((p:Int) * 256) (q:Int)=(p:Int) * 256+(q:Int)):=by
    show _=_;rw[bits_join IntKind.i64 63 (by decide) Br 8 _ _ (by omega) (by omega) (by omega) (by omega) (by omega) (by omega)]
   clear hd g2 g3 g4 g5 hp hq hpq;go_wp2_with fail;go_quiet (fail);rw[HOR.out];have HR:Hid (D5 w.heap.size u2 (ks.take j) (wr.drewN nq)):=KB HR.out nq;have HB:Hid (Below w.heap.size w (wr.drewN nq)):=A4 HB.out nq;obtain⟨wq,hwq⟩:∃wq,wr.drewN nq=wq:=⟨_,rfl⟩;rw[hwq]at HR HB;rw[hwq];clear hwq;obtain⟨i0,hi,hz0,hz1,hz2⟩:=MR
   have HX:Hid (Value.int .i64 ((p:Int) * 256+(q:Int))=Value.int .i64 ((ks[j]:Nat):Int)):=by
    show _=_;rw[HPQ.out];congr 1
   have HO2:Hid _:=World.ownsRow.alloc HR.out (.cells #[.int .i64 ((p:Int) * 256+(q:Int))] 3);have h2:(2:Int)<=(R.size:Int):=by omega
   have hs2:∀wx,(Instr.slice 9 (.string R) (some (.int .i64 2)) none none).run Tryz.prog wx= .ok (.string (R.extract 2 R.size)) wx:=fun wx=>IQ R 2 (by omega) wx
   go_wp2_with (at_builtin;refine wpList_append_own _ rfl _ _ 69 rfl w.heap.size 3 i0 (.int .i64 0) 1 8 Tryz.underlying69 hi hz0 hz1 hz2 rfl (by decide) _ _ _ rfl HO2.out ⟨wq.heap.size,0,none⟩ 1 1 [.int .i64 ((p:Int) * 256+(q:Int))] rfl rfl (Bs wq _ 3) (by intro u hu;simp at hu;subst hu;rfl) (by rw[hll];simp only[maxLen];omega) (by rw[hll];omega) (by have:=HB.out.size;simp;omega) ?_;intro v' w' hO hG hN)
   refine⟨⟨j+1,_,by omega,?_,rfl,HD2,?_,?_⟩,?_⟩
   ·have:=HD3.out;omega
   ·show D5 _ _ _ _
    rw[HT.out];show World.ownsRow _ _ _ _ _ _ _;rw[List.length_append,List.map_append,List.map_singleton,<-HX.out];exact hO
   ·exact(HB.out.alloc HB.out.size _).grown hG (by have:=HB.out.size;simp;omega) (fun k e=>(World.ownsRow.lt HR.out k e).1)
   ·have:=HD3.out
    show(R.extract 2 R.size).size<R.size;omega
  ·obtain rfl:j=ks.length:=by omega
   have hd:=HD.out;rw[List.drop_length,show DA ([]:List Nat)=[]from rfl,List.nil_append]at hd;rw[List.take_length]at HR
   by_cases h1:1<R.size
   ·obtain⟨g2,g3⟩:=QX hd h1
    have b0:∀w,(Instr.index 9 (.string R) (.int .i64 0)).run Tryz.prog w= .ok (.int .u8 0) w:=fun w=>B9 R 0 (by omega) 0 g2 w;have b1:∀w,(Instr.index 9 (.string R) (.int .i64 1)).run Tryz.prog w= .ok (.int .u8 0) w:=fun w=>B9 R 1 h1 0 g3 w;have h2:(1:Int)<(R.size:Int):=by omega
    have hor:bits BinOp.or IntKind.i64 0 0=0:=by decide
    clear hd g2 g3;go_wp2_with fail;go_quiet (fail);have HR:Hid (D5 w.heap.size u2 ks (wr.drewN nq)):=KB HR.out nq;have HB:Hid (Below w.heap.size w (wr.drewN nq)):=A4 HB.out nq;go_wp2;go_ret;exact⟨_,rfl,HR.out,HB.out⟩
   ·have h2:¬(1:Int)<(R.size:Int):=by omega
    clear hd;go_wp2;go_ret;exact⟨_,rfl,HR.out,HB.out⟩
end
section
open Go.RowKit Go.Maps
structure Tt (bt bp r:Nat) (w:World):Prop where
 cp:w.cell? ⟨bt,0,none⟩=some (.pointer (some ⟨bp,0,none⟩))
 cr:w.cell? ⟨bt,1,none⟩=some (.int .i64 r)
 lt8:r<8
section
variable {bt bp r:Nat} {w wx:World}
theorem Tt.lt (h:Tt bt bp r w):bt<w.heap.size:=World.block_lt_of_cell? w _ h.cp
theorem Tt.below (h:Tt bt bp r w) (hb:Below w.heap.size w wx):Tt bt bp r wx:=⟨(hb.cell (p:=⟨bt,0,none⟩) h.lt).trans h.cp,(hb.cell (p:=⟨bt,1,none⟩) h.lt).trans h.cr,h.lt8⟩
theorem Tt.only {S:Nat->Prop} (h:Tt bt bp r w) (ho:Aa S w wx) (hs:¬S bt):Tt bt bp r wx:=⟨(ho.cell h.lt hs 0).trans h.cp,(ho.cell h.lt hs 1).trans h.cr,h.lt8⟩
theorem Tt.drew (h:Tt bt bp r w):Tt bt bp r w.drew:=⟨h.cp,h.cr,h.lt8⟩
end
def Al (ps:List Pr):ByteArray:=⟨(C5 ps).toArray⟩
theorem AF (ps:List Pr):(Al ps).size=szL ps:=by
 show(C5 ps).toArray.size=_;rw[List.size_toArray,Ey]
theorem CJ.front {t:ByteArray} {ps:List Pr} {z:Nat} (h:CJ t ps z):t.extract 0 (szL ps)=Al ps:=by
 apply ByteArray.ext;apply Array.toList_inj.1;rw[ByteArray.data_extract,Array.toList_extract,List.extract_eq_take_drop,h.data];show(C5 ps++List.replicate z 0).take (szL ps-0)=(C5 ps).toArray.toList;rw[Nat.sub_zero,<-Ey,List.take_left]
theorem EG {ps:List Pr} (hok:∀x∈ps,x.Ok) (hs:szL ps<=4096):CJ (Al ps) ps 0:=⟨by show(C5 ps).toArray.toList=_;simp,hok,by rw[AF];exact hs⟩
section
variable {bt bp bd bm N r:Nat} {s:St} {up:Nat->Bool} {cm:Int} {V:Pst} {w:World}
theorem Ky (t:ByteArray) (a:Nat) (h:a<=t.size) (w:World):(Instr.slice 9 (.string t) none (some (.int .i64 (a:Nat))) none).run Tryz.prog w= .ok (.string (t.extract 0 a)) w:=by
 simp[Instr.slice,Instr.sliceBounds,Instr.sliceBound,asIntOf,run_underlying Tryz.underlying9,go_sem];intro hc;omega
theorem M4 (hT:Tt bt bp r w) (h:Tw bp bd bm N s up cm V w) (k:Nat) (hk:k<2000) (hu:V.used k=true) {ps:List Pr} {z:Nat} (hL:CJ (V.tx k) ps z):
  Calls Tryz.prog 169 #[.pointer (some ⟨bt,0,none⟩),.int .i64 k] w fun e w'=>e= .returned (.tuple #[.string (Al ps),.nilIface])/\Below w.heap.size w w':=by
 have q0:=hT.cp;have HW:Hid _:=h;have HL:Hid _:=hL;have hfr:=Ky (V.tx k) (szL ps) (by rw[hL.size];omega);rw[hL.front]at hfr;clear h hL hT;go_enter Tryz.func169,Tryz.ntmps169;go_wp2_with fail;refine(Iq HW.out k hk hu).mono ?_;rintro _ w1 ⟨rfl,hb1⟩;have HB1:Hid _:=hb1;clear hb1;go_wp2_with fail;refine(Ot HL.out w1).mono ?_;rintro _ w2 ⟨rfl,hb2⟩;have HB2:Hid (Below w.heap.size w w2):=HB1.out.trans (hb2.mono HB1.out.size);clear hb2;go_wp2;go_ret2;exact⟨rfl,HB2.out⟩
end
def FR (t:ByteArray) (j:Nat):Nat:=(t.data.toList.getD j 0).toNat
def pad (t:ByteArray):ByteArray:=⟨(BX (FR t)).toArray⟩
theorem Jh (t:ByteArray):(pad t).size=1024:=by
 show(BX (FR t)).toArray.size=1024;rw[List.size_toArray,Dt]
theorem ME (t:ByteArray) (h:t.size<=1024):(pad t).data.toList=t.data.toList++List.replicate (1024-t.size) 0:=by
 have e0:(pad t).data.toList=BX (FR t):=by unfold pad;simp only
 rw[e0];apply List.ext_getElem?;intro j;have hl:t.data.toList.length=t.size:=Array.length_toList
 by_cases hj:j<1024
 ·have e1:(BX (FR t))[j]? =some (t.data.toList.getD j 0):=by
   have:=LT (FR t) hj;rw[List.getD_eq_getElem?_getD]at this;have hb:j<(BX (FR t)).length:=by rw[Dt];exact hj
   rw[List.getElem?_eq_getElem hb]at this ⊢;have h9:(BX (FR t))[j]=UInt8.ofNat (FR t j):=this;rw[h9];unfold FR;rw[UInt8.ofNat_toNat]
  rw[e1,List.getElem?_append];split
  ·rename_i e
   rw[List.getD_eq_getElem?_getD,List.getElem?_eq_getElem e];rfl
  ·rename_i e
   rw[List.getElem?_replicate,if_pos (by omega),List.getD_eq_getElem?_getD,List.getElem?_eq_none (by omega)];rfl
 ·rw[List.getElem?_eq_none (by rw[Dt];omega),List.getElem?_eq_none (by rw[List.length_append,List.length_replicate];omega)]
theorem R7 {ps:List Pr} (hok:∀x∈ps,x.Ok) (hs:szL ps<=1024):CJ (pad (Al ps)) ps (1024-szL ps):=
 ⟨by rw[ME _ (by rw[AF];exact hs),AF];show(C5 ps).toArray.toList++_=_;simp,hok,by rw[Jh];omega⟩
theorem GK.copied {B:Nat} {w:World} (h:GK B (fun _=>0) w) (t:ByteArray) (ht:t.size<=1024):GK B (FR t) (w.setCells B 0 (Lib.byteCells t.data.toList)):=by
 have hl:t.data.toList.length=t.size:=Array.length_toList;have hb:(Lib.byteCells t.data.toList).length=t.size:=by rw[Lib.byteCells_length,hl]
 refine⟨fun j hj=> ?_,fun j=>by rw[World.frozen?_setCells];exact h.free j,fun j=>UInt8.toNat_lt _⟩
 by_cases e:j<t.size
 ·have:=World.cell?_setCells_in B (Lib.byteCells t.data.toList) 0 w (fun i hi=>by rw[Nat.zero_add,h.cell i (by omega)];rfl) j (by omega)
  rw[Nat.zero_add]at this;rw[this];unfold Lib.byteCells FR;rw[List.getElem_map,List.getD_eq_getElem?_getD,List.getElem?_eq_getElem (by omega)];rfl
 ·rw[World.cell?_setCells_out B _ 0 w ⟨B,j,none⟩ (fun _ _=> .inr (by show 0+_<=j;omega)),h.cell j hj]
  unfold FR;rw[List.getD_eq_getElem?_getD,List.getElem?_eq_none (by omega)];rfl
section
variable {bt bp bd bm N r:Nat} {s:St} {up:Nat->Bool} {cm:Int} {V:Pst} {w:World}
theorem BM {a b:ByteArray} (h:(a.toList == b.toList)=true):a=b:=by
 have h2:a.toList=b.toList:=by simpa using h
 rw[ByteArray.toList_eq,ByteArray.toList_eq]at h2;exact ByteArray.ext (Array.toList_inj.1 h2)
theorem Pst.write_same (V:Pst) (k:Nat):V.write k (V.tx k)=V:=by
 cases V
 unfold Pst.write;congr
 funext i
 by_cases e:i=k
 ·rw[if_pos e,e]
 ·rw[if_neg e]
set_option maxHeartbeats 1000000
theorem Pp (hT:Tt bt bp r w) (h:Tw bp bd bm N s up cm V w) (hN:N<1000000) (hne:bt≠bp/\bt≠bm) (k:Nat) (hk:k<2000) (hu:V.used k=true) (t:ByteArray) (ht:t.size<=1024):
  Calls Tryz.prog 213 #[.pointer (some ⟨bt,0,none⟩),.int .i64 k,.string t] w fun e w'=>e= .returned .nilIface/\Tw bp bd bm (N+1) s up cm (V.write k (pad t)) w'/\Aa (fun b=>b=bp\/b=bm) w w':=by
 have h0:=h.lt;obtain⟨w1,hmk,hb1,hr1⟩:=Qa w;have hcp:=Lr (P:=Tryz.prog) w1 199 9 3 5 w.heap.size 0 1024 1024 t Tryz.underlying199 (by kernel_rfl) ht (fun j hj=>by rw[Nat.zero_add,hr1.cell j (by omega)];rfl) (fun j _=>by rw[Nat.zero_add];exact hr1.free j);have HR:Hid (GK w.heap.size (FR t) (w1.setCells w.heap.size 0 (Lib.byteCells t.data.toList))):=hr1.copied t ht;have HB:Hid (Below w.heap.size w (w1.setCells w.heap.size 0 (Lib.byteCells t.data.toList))):=Below.setCells' (Nat.le_refl _) _ _ _ hb1;obtain⟨w2,hw2⟩:∃w2,w1.setCells w.heap.size 0 (Lib.byteCells t.data.toList)=w2:=⟨_,rfl⟩;rw[hw2]at hcp HR HB;have HT:Hid (Tt bt bp r w2):=hT.below HB.out;have HW:Hid (Tw bp bd bm N s up cm V w2):=h.below HB.out;have q0:=HT.out.cp;clear hw2 hr1 hb1 hT h;go_enter Tryz.func213,Tryz.ntmps213;go_wp2_with fail;refine(Iq HW.out k hk hu).mono ?_;rintro _ w3 ⟨rfl,hb3⟩;have HB3:Hid (Below w.heap.size w w3):=HB.out.trans (hb3.mono HB.out.size);have HT3:Hid (Tt bt bp r w3):=HT.out.below hb3;have HW3:Hid (Tw bp bd bm N s up cm V w3):=HW.out.below hb3;have HR3:Hid (GK w.heap.size (FR t) w3):=HR.out.block (hb3.block _ HR.out.lt);have htx:=HR3.out.text;have HTX:Hid (pad t=⟨(BX (FR t)).toArray⟩):=rfl;rw[<-HTX.out]at htx;have q3:=HT3.out.cp;clear hb3 HT HW HR q0 HTX
 cases he:((V.tx k).toList == (pad t).toList)
 ·have lts:=HW3.out.lt
  have HBT:Hid (bp<w.heap.size/\bm<w.heap.size):=⟨h0.1,h0.2.1⟩;go_wp2_with fail;have HW4:Hid (Tw bp bd bm N s up cm V w3.drew):=HW3.out.drew;have S0:Hid (w3.drew.cell? ⟨bt,0,none⟩=some (.pointer (some ⟨bp,0,none⟩))/\(convert 199 9 (.slice (some ⟨w.heap.size,0,none⟩) 1024 1024)).run Tryz.prog w3.drew= .ok (.string (pad t)) w3.drew):=⟨HT3.out.drew.cp,(HR3.out.block (w':=w3.drew) rfl).text⟩;clear htx q3
  go_region_held3 (fun wx=>wx.cell? ⟨bt,0,none⟩=some (.pointer (some ⟨bp,0,none⟩))/\(convert 199 9 (.slice (some ⟨w.heap.size,0,none⟩) 1024 1024)).run Tryz.prog wx= .ok (.string (pad t)) wx) (first|exact S0.out|exact S1.out)
   (first|(go_at_call 238;refine(QV HW4.out hN k hk hu (pad t) (Jh t)).mono ?_;rintro _ w5 ⟨rfl,hW5,hO5⟩;have HO5:Hid _:=hO5;have HW5:Hid _:=hW5;have S1:Hid (w5.cell? ⟨bt,0,none⟩=some (.pointer (some ⟨bp,0,none⟩))/\(convert 199 9 (.slice (some ⟨w.heap.size,0,none⟩) 1024 1024)).run Tryz.prog w5= .ok (.string (pad t)) w5):=⟨(HT3.out.drew.only hO5 (fun e=>by rcases e with e|e;exact hne.1 e;exact hne.2 e)).cp,((HR3.out.block (w':=w3.drew) rfl).block (hO5.block _ HR3.out.lt (fun e=>by have:=HBT.out;omega))).text⟩;clear hO5 hW5))
  go_wp2;go_ret;exact⟨rfl,HW5.out,(Aa.of_below (S:=fun b=>b=bp\/b=bm) HB3.out.drew).trans HO5.out (fun _ e=> .inl e)⟩
 ·have HE:Hid (V.tx k=pad t):=by
   show _=_;exact BM he
  go_wp2;go_ret;refine⟨rfl,?_,Aa.of_below HB3.out⟩;rw[<-HE.out,Pst.write_same];exact HW3.out.mono (Nat.le_succ _)
end
end
end Go.Proofs.YtihnldkgeelehaaGreatDoor
