/- MatchFinds: part 22. -/
import Derived.Test.YtgfldnaahojnlaaGreatDoorF21
import Derived.LaidEql
import Derived.Stop.Asserts
import Derived.RowKitTokens
set_option maxRecDepth 100000
set_option maxHeartbeats 4000000
namespace Go.Proofs.YtgfldnaahojnlaaGreatDoor
section
open Go.RowKit Go.Maps
theorem Lp (r:Nat):∀(l:List ByteArray) (j:Nat) (x w:ByteArray),AU r j (l++[x]) w=AU r j l w++(if x=w then [⟨(r:Int),((j+l.length:Nat):Int)⟩]else [])
 | [],j,x,w=>by
   rw[List.nil_append,AU,AU,AU];split<;>simp
 |y::l,j,x,w=>by
  rw[List.cons_append,AU,AU,Lp r l (j+1) x w,List.length_cons,show j+1+l.length=j+(l.length+1) by omega];split<;>simp
theorem NA (r:Nat):∀(l:List ByteArray) (j:Nat) (w:ByteArray),(AU r j l w).length<=l.length
 | [],j,w=>Nat.le_refl _
 |y::l,j,w=>by
  have:=NA r l (j+1) w;unfold AU;split<;>simp only[List.length_cons]<;>omega
theorem N8 (r:Nat):∀(l:List ByteArray) (j:Nat) (w:ByteArray),w∈l->0<(AU r j l w).length
 | [],j,w,h=>by cases h
 |y::l,j,w,h=>by
  unfold AU
  by_cases e:y=w
  ·rw[if_pos e];simp
  ·rw[if_neg e]
   refine N8 r l (j+1) w ?_;rcases List.mem_cons.1 h with h|h
   ·exact absurd h.symm e
   ·exact h
theorem Yd:Tryz.prog.elem 22=9:=by kernel_rfl
theorem X4:(sizeOf 9).run Tryz.prog=fun w=> .ok 1 w:=by kernel_rfl
theorem Ep (g n cap i:Nat) (hi:i<n) (wx:World):(Instr.indexAt 22 (.slice (some ⟨g,0,none⟩) n cap) (.int .i64 (i:Nat))).run Tryz.prog wx= .ok (.pointer (some ⟨g,i,none⟩)) wx:=by
 have:=Kq Tryz.underlying22 Yd X4 g n cap i hi wx;rw[Nat.one_mul]at this;exact this
theorem Gw {w:World} {B:Nat} {v:Value} {ss:List ByteArray} (h:w.ownsRow B 9 1 v ss.length (sc ss)) {i:Nat} (hi:i<ss.length):∃g cap,v= .slice (some ⟨g,0,none⟩) ss.length cap/\w.cell? ⟨g,i,none⟩=some (.string ss[i]):=by
 obtain⟨g,cap,rfl,h1,h2⟩:=World.ownsRow.form h (by omega);refine⟨g,cap,rfl,?_⟩;have:=h.cells (g:=g) rfl i (.string ss[i]) (by unfold sc;rw[List.getElem?_map,List.getElem?_eq_getElem hi];rfl);rw[AG,Nat.zero_add]at this;exact this
theorem Aa.shed {S:Nat->Prop} {w w':World} (h:Aa (fun b=>S b\/w.heap.size<=b) w w'):Aa S w w':=
 ⟨h.os,h.tape,h.output,h.size,fun k hk hs=>h.block k hk (fun e=>by rcases e with e|e;exact hs e;exact absurd hk (by omega))⟩
section
variable {w:World} {ws:List ByteArray} {v:Value} {r Bx:Nat} {W:Nat->Prop} {I:Nat->World->Prop} {fw:Nat} {cw:Array Value}
open Classical in
noncomputable def DT (r:Nat) (ws:List ByteArray) (i:Nat) (k:ByteArray):List Pl:=if k∈ws.take i then []else AU r 0 ws k
theorem IY {i j:Nat} {k:ByteArray} (h:k∈ws.take j↔k∈ws.take i):DT r ws j k=DT r ws i k:=by
 unfold DT
 by_cases e:k∈ws.take i
 ·rw[if_pos e,if_pos (h.2 e)]
 ·rw[if_neg e,if_neg (fun e2=>e (h.1 e2))]
theorem Ur (hws:∀x∈ws,x.size<=100) (hl:ws.length<=100000) (hrow:w.ownsRow Bx 9 1 v ws.length (sc ws)) (hW:∀b,W b->b<w.heap.size/\v.ownBlock≠some b)
  (eg:∀args w,(callFunc fw args).run Tryz.prog w= .ok (.enter fw args) w) (hI:I 0 w) (hst:∀k wx wy,I k wx->Aa (fun b=>w.heap.size<=b) wx wy->I k wy)
  (hc:∀i (hi:i<ws.length) a n c wx,ws[i]∉ws.take i->I i wx->w.heap.size<=wx.heap.size->wx.ownsRow w.heap.size 81 2 (.slice a n c) (AU r 0 ws ws[i]).length (plc (AU r 0 ws ws[i]))->n=(AU r 0 ws ws[i]).length->
    Calls Tryz.prog fw (#[.string ws[i],.slice a n c]++cw) wx fun e w'=>e= .returned .nilIface/\I (i+1) w'/\Aa W wx w')
  (hsk:∀i (hi:i<ws.length) wx,ws[i]∈ws.take i->I i wx->I (i+1) wx):
  Calls Tryz.prog 57 #[v,.int .i64 (r:Nat),.func (.func fw) #[] cw] w fun e w'=>e= .returned .nilIface/\I ws.length w'/\Aa W w w':=by
 obtain⟨i0,hi0,hz0,hz1,hz2⟩:=A5 He;obtain⟨a9,c9,hv9⟩:=Bz hrow;obtain⟨n,hn⟩:∃n,ws.length=n:=⟨_,rfl⟩;have HN:Hid _:=hn;rw[hn]at hv9 hl;subst hv9;have hmm:= @run_makeMap Tryz.prog;have HROW:Hid _:=hrow;have HW:Hid _:=hW;have HI:Hid _:=hI;have HST:Hid _:=hst;have HC:Hid _:=hc;have HSK:Hid _:=hsk;have HWS:Hid _:=hws;have hbm:Below w.heap.size w (w.alloc (.map #[] 0)):=(Below.refl _ w).alloc (Nat.le_refl _) _;have HM0:Hid (LfB w.heap.size 0 (fun _=>none) (w.alloc (.map #[] 0))):=LfB.new w;have HBM:Hid _:=hbm
 have HR0:Hid (∀wx,Aa (fun b=>W b\/w.heap.size<=b) w wx->wx.ownsRow Bx 9 1 (.slice a9 n c9) ws.length (sc ws)):=fun wx ho=>I3 HROW.out ho (fun b e=>by
  rintro(e2|e2)
  ·exact(HW.out b e2).2 e
  ·have:=(World.ownsRow.lt HROW.out b e).2;omega)
 clear hrow hW hI hst hc hsk hws hbm hn;go_enter Tryz.func57,Tryz.ntmps57;go_wp2_with fail;go_loopw [18] (fun iv wr=>∃(i:Nat) (F:ByteArray->Option Value),i<=n/\iv= .int .i64 (i:Nat)/\Hid (LfB w.heap.size i F wr)/\Hid (LfR (w.heap.size+1) (AU r 0 (ws.take i)) F wr)/\Hid (Below w.heap.size w wr)/\Hid (w.heap.size+1<=wr.heap.size)) (fun iv _=>n+1-(intOf iv).toNat)
 case atStart=>
  refine⟨0,fun _=>none,Nat.zero_le _,rfl,HM0,⟨fun k _=>rfl,fun k v h=>(by cases h),fun k v j u h=>(by cases h)⟩,HBM,?_⟩;show _<=_;rw[World.size_alloc];omega
 case round=>
  clear HM0;obtain⟨i,F,hi,rfl,HM,HR,HB,HSZ⟩:=hrel
  by_cases hlt:i<n
  ·have h1:(i:Int)<(n:Int):=by omega
   have hil:i<ws.length:=by rw[HN.out];exact hlt
   obtain⟨g,cap,hv,hcell⟩:=Gw (HR0.out wr (Ab HB.out _)) hil;rw[HN.out]at hv
   cases hv
   have hix:=fun wx=>Ep g n c9 i hlt wx;obtain⟨wd,hwd⟩:∃wd,ws[i]=wd:=⟨_,rfl⟩;have HWD:Hid _:=hwd;have hws1:wd.size<=1000:=by have:=HWS.out _ (List.getElem_mem hil);rw[hwd]at this;omega
   rw[hwd]at hcell;have hbA:Below wr.heap.size wr (wr.alloc (.cells #[.int .i64 (r:Nat),.int .i64 (i:Nat)] 81)):=(Below.refl _ _).alloc (Nat.le_refl _) _;have HMA:Hid (LfB w.heap.size i F (wr.alloc (.cells #[.int .i64 (r:Nat),.int .i64 (i:Nat)] 81))):=HM.out.below hbA;have HRA:Hid (LfR (w.heap.size+1) (AU r 0 (ws.take i)) F (wr.alloc (.cells #[.int .i64 (r:Nat),.int .i64 (i:Nat)] 81))):=HR.out.below hbA;have HBA:Hid (Below w.heap.size w (wr.alloc (.cells #[.int .i64 (r:Nat),.int .i64 (i:Nat)] 81))):=HB.out.trans (hbA.mono HB.out.size);obtain⟨v0,hv0⟩:∃v0,(F wd).getD (.slice none 0 0)=v0:=⟨_,rfl⟩;have HV0:Hid _:=hv0
   have HAT:Hid ((wr.alloc (.cells #[.int .i64 (r:Nat),.int .i64 (i:Nat)] 81)).ownsRow (w.heap.size+1) 81 2 v0 (AU r 0 (ws.take i) wd).length (plc (AU r 0 (ws.take i) wd))):=by
    rw[<-hv0];exact HRA.out.at wd
   have hln:(AU r 0 (ws.take i) wd).length<=100000:=by
    have:=NA r (ws.take i) 0 wd;rw[List.length_take]at this;omega
   have HNW:Hid (∀(j:Nat) (u:Value),[Value.int .i64 (r:Nat),.int .i64 (i:Nat)][j]? =some u->(wr.alloc (.cells #[.int .i64 (r:Nat),.int .i64 (i:Nat)] 81)).cell? ((⟨wr.heap.size,0,none⟩:Addr).add j)=some u):=by
    intro j u hu;have hV:=Cp.new wr #[.int .i64 (r:Nat),.int .i64 (i:Nat)] 81 (by simp);rw[AG];exact hV.get hu
   clear hwd hbA hv0
   go_wp2_with (first|(at_lookup;refine Ww _ rfl _ _ rfl HM.out wd hws1 rfl rfl ?_;rw[HV0.out])|(at_builtin;refine wpList_append_lies _ rfl _ _ 91 rfl (w.heap.size+1) 81 i0 (.agg #[.int .i64 0,.int .i64 0]) 2 16 Tryz.underlying91 hi0 hz0 hz1 hz2 rfl (by decide) _ _ _ rfl HAT.out ⟨wr.heap.size,0,none⟩ 1 1 [.int .i64 (r:Nat),.int .i64 (i:Nat)] rfl rfl HNW.out (by intro u hu;simp at hu;rcases hu with rfl|rfl<;>rfl) (by decide) (by simp only[maxLen];omega) (by omega) (by have:=HSZ.out;rw[World.size_alloc];omega) _ rfl ?_;intro g' cap' w' hO hG hat hlt';have HM3:Hid (LfB w.heap.size i F w'):=HMA.out.block (hG.block _ HMA.out.lt (fun e=>by have:=(World.ownsRow.lt HAT.out _ e.symm).1;omega)))|(at_mapUpdate;refine XD _ rfl _ _ _ rfl HM3.out (by omega) wd hws1 _ rfl rfl rfl ?_;intro w8 hM8 hO8))
   refine⟨⟨i+1,_,by omega,by go_num,hM8,?_,?_,?_⟩,by simp[intOf];omega⟩
   ·refine LfR.only (S:=fun b=>b=w.heap.size) (w:=w') ?_ hO8 (fun b e=>by omega)
    have hsn:=Lp r (ws.take i) 0 ws[i];rw[<-List.take_succ_eq_append_getElem hil,HWD.out]at hsn;have hlt2:(ws.take i).length=i:=by rw[List.length_take];omega
    have hs1:=hsn wd;rw[if_pos rfl,hlt2,Nat.zero_add]at hs1;refine HRA.out.put wd (by rw[HV0.out];exact hG) ?_ ?_ (fun j hj=> ?_) (fun b hb=> ?_)
    ·rw[hs1,List.length_append,Cc]
     exact hO
    ·rw[hs1,List.length_append]
     show 0<_+1;omega
    ·rw[hsn j,if_neg (fun e=>hj e.symm),List.append_nil]
    ·rw[HV0.out]
     have hb':some g'=some b:=hb;obtain rfl:=Option.some.inj hb';rcases hat with e|e
     ·exact .inl e
     ·exact .inr (Nat.le_of_eq e.symm)
   ·have hB2:Below w.heap.size w w':=Aa.below HBA.out (AI (S:=fun b=>w.heap.size<=b) hG (fun b e=>by have:=(World.ownsRow.lt HAT.out _ e).1;omega)) HBA.out.size (fun _ e=>e)
    exact Aa.below hB2 hO8 hB2.size (fun b e=>by omega)
   ·show _<=_
    have e1:=hO8.size;have e2:=hG.size;have e3:=HSZ.out;rw[World.size_alloc]at e2;omega
  ·have h1:¬(i:Int)<(n:Int):=by omega
   obtain rfl:n=i:=by omega
   have HRL:Hid (LfR (w.heap.size+1) (DT r ws 0) F wr):=by
    have:=HR.out;rw[<-HN.out,List.take_length]at this
    have e:DT r ws 0=AU r 0 ws:=by
     funext k
     simp[DT]
    show LfR _ _ _ _;rw[e];exact this
   have HI0:Hid (I 0 wr):=HST.out 0 w wr HI.out (Ab HB.out _);have HB1:Hid (Aa (fun b=>W b\/w.heap.size<=b) w wr):=Ab HB.out _;clear HR HB HI;go_wp2_with fail;go_loopw [36] (fun iv wr=>∃(i:Nat) (F:ByteArray->Option Value),i<=n/\iv= .int .i64 (i:Nat)/\Hid (LfB w.heap.size n F wr)/\Hid (LfR (w.heap.size+1) (DT r ws i) F wr)/\Hid (I i wr)/\Hid (Aa (fun b=>W b\/w.heap.size<=b) w wr)) (fun iv _=>n+1-(intOf iv).toNat)
   case atStart=>exact⟨0,F,Nat.zero_le _,rfl,HM,HRL,HI0,HB1⟩
   case round=>
    clear HM HRL HI0 HB1;obtain⟨i,F,hi,rfl,HM,HRL,HII,HB⟩:=hrel
    by_cases hlt:i<n
    ·have h1:(i:Int)<(n:Int):=by omega
     have hil:i<ws.length:=by rw[HN.out];exact hlt
     obtain⟨g,cap,hv,hcell⟩:=Gw (HR0.out wr HB.out) hil;rw[HN.out]at hv
     cases hv
     have hix:=fun wx=>Ep g n c9 i hlt wx;obtain⟨wd,hwd⟩:∃wd,ws[i]=wd:=⟨_,rfl⟩;have HWD:Hid _:=hwd;have hws1:wd.size<=1000:=by have:=HWS.out _ (List.getElem_mem hil);rw[hwd]at this;omega
     rw[hwd]at hcell
     have hnx:∀k,k∈ws.take (i+1)↔k∈ws.take i\/k=wd:=fun k=>by
      rw[List.take_succ_eq_append_getElem hil,hwd,List.mem_append,List.mem_singleton]
     by_cases hin:wd∈ws.take i
     ·have hF:F wd=none:=by
       cases e:F wd with
       |none=>rfl
       |some v1=>
        have:=(HRL.out.row wd v1 e).2;rw[DT,if_pos hin]at this;simp at this
      have HL2:Hid (LfR (w.heap.size+1) (DT r ws (i+1)) F wr):=by
       have e:DT r ws (i+1)=DT r ws i:=by
        funext k
        exact IY ⟨fun h=>by rcases(hnx k).1 h with h|h;exact h;rw[h];exact hin,fun h=>(hnx k).2 (.inl h)⟩
       show LfR _ _ _ _;rw[e];exact HRL.out
      have HI2:Hid (I (i+1) wr):=HSK.out i hil wr (by rw[HWD.out];exact hin) HII.out;have HFN:Hid ((F wd).getD (.slice none 0 0)= .slice none 0 0/\(F wd).isSome=false):=⟨by rw[hF];rfl,by rw[hF];rfl⟩;clear hF hin hnx hwd
      go_wp2_with (at_lookup;refine NV _ rfl _ _ rfl HM.out wd hws1 rfl rfl ?_;rw[HFN.out.1,HFN.out.2])
      go_roundw
      case rel=>exact⟨i+1,F,by omega,by go_num,HM,HL2,HI2,HB⟩
      case measure=>simp[intOf];omega
     ·have hmem:wd∈ws:=by rw[<-hwd];exact List.getElem_mem hil
      obtain⟨v1,hF⟩:∃v1,F wd=some v1:=by
       cases e:F wd with
       |some v1=>exact⟨v1,rfl⟩
       |none=>
        have h1:=HRL.out.none wd e;rw[DT,if_neg hin]at h1;have h2:=N8 r ws 0 wd hmem;rw[h1]at h2;simp at h2
      have hr1:=(HRL.out.row wd v1 hF).1;rw[DT,if_neg hin]at hr1;obtain⟨a1,c1,hv1⟩:=Bz hr1;obtain⟨n1,hn1⟩:∃n1,(AU r 0 ws wd).length=n1:=⟨_,rfl⟩;rw[hn1]at hv1;subst hv1;have HR1:Hid (wr.ownsRow (w.heap.size+1) 81 2 (.slice a1 n1 c1) (AU r 0 ws wd).length (plc (AU r 0 ws wd))):=hr1;have HN1:Hid _:=hn1;have HL2:Hid (LfR (w.heap.size+1) (DT r ws (i+1)) (setF F wd none) wr):=HRL.out.del wd (by unfold DT;rw[if_pos ((hnx wd).2 (.inr rfl))]) (fun j hj=>IY ⟨fun h=>by rcases(hnx j).1 h with h|h;exact h;exact absurd h hj,fun h=>(hnx j).2 (.inl h)⟩);have HFN:Hid ((F wd).getD (.slice none 0 0)= .slice a1 n1 c1/\(F wd).isSome=true):=⟨by rw[hF];rfl,by rw[hF];rfl⟩;have HIN:Hid (¬ws[i]∈ws.take i):=by rw[hwd];exact hin
      clear hF hin hnx hwd hr1 hn1
      go_wp2_with (first|(at_lookup;refine NV _ rfl _ _ rfl HM.out wd hws1 rfl rfl ?_;rw[HFN.out.1,HFN.out.2])|(at_delete;refine Ye _ rfl _ _ rfl HM.out wd hws1 rfl rfl ?_;intro w8 hM8 hO8))
      have HM8:Hid (LfB w.heap.size n (setF F wd none) w8):=hM8;have HL8:Hid (LfR (w.heap.size+1) (DT r ws (i+1)) (setF F wd none) w8):=HL2.out.only hO8 (fun b e=>by omega);have HB8:Hid (Aa (fun b=>W b\/w.heap.size<=b) w w8):=HB.out.trans hO8 (fun b e=> .inl (.inr (Nat.le_of_eq e.symm)))
      have HCC:Hid (Calls Tryz.prog fw (#[.string wd,.slice a1 n1 c1]++cw) w8 fun e w'=>e= .returned .nilIface/\I (i+1) w'/\Aa W w8 w'):=by
       have h8:w8.ownsRow w.heap.size 81 2 (.slice a1 n1 c1) (AU r 0 ws ws[i]).length (plc (AU r 0 ws ws[i])):=by
        rw[HWD.out];exact Du (Be HR1.out hO8 (fun b e=>by omega)) (by omega)
       have:=HC.out i hil a1 n1 c1 w8 HIN.out (HST.out i wr w8 HII.out (hO8.mono (fun b e=>Nat.le_of_eq e.symm))) HB8.out.size h8 (by rw[HWD.out,HN1.out]);rw[HWD.out]at this;exact this
      clear hM8 hO8;go_wp2_with fail;refine(show Calls _ _ _ _ _ from HCC.out).mono ?_;rintro _ w9 ⟨rfl,hi9,ho9⟩;have HI9:Hid (I (i+1) w9):=hi9;have HM9:Hid (LfB w.heap.size n (setF F wd none) w9):=HM8.out.only ho9 (fun e=>by have:=(HW.out _ e).1;omega);have HL9:Hid (LfR (w.heap.size+1) (DT r ws (i+1)) (setF F wd none) w9):=HL8.out.only ho9 (fun b e=>by have:=(HW.out _ e).1;omega);have HB9:Hid (Aa (fun b=>W b\/w.heap.size<=b) w w9):=HB8.out.trans ho9 (fun b e=> .inl (.inl e));clear hi9 ho9;go_wp2_with fail;go_roundw
      case rel=>exact⟨i+1,_,by omega,by go_num,HM9,HL9,HI9,HB9⟩
      case measure=>simp[intOf];omega
    ·have h1:¬(i:Int)<(n:Int):=by omega
     obtain rfl:n=i:=by omega
     go_wp2;go_ret;exact⟨rfl,by rw[HN.out];exact HII.out,HB.out.shed⟩
end
end
section
open Go.RowKit Go.Extern.Stop Go.Stop Go.Extern
theorem Tryz.valueOf68 (t:Addr) (w:World):(ReflectliteValue.unpack (.iface 177 (.pointer (some t)))).run Tryz.prog w
  = .ok (.agg #[.pointer (some ⟨5,177,none⟩),.pointer (some ⟨w.heap.size,0,none⟩),.int .u64 150]) (w.alloc (.cells #[.pointer (some t)] 177)):=by kernel_rfl
theorem Tryz.type68 (a:Addr) (w:World):(ReflectliteValue.methodAny (ReflectliteValue.valueError "reflectlite.Value.Type" 0) (fun t _ _ _=>ReflectliteType.toType t) #[.agg #[.pointer (some ⟨5,177,none⟩),.pointer (some a),.int .u64 150]]).run Tryz.prog w
  = .ok (.iface 260 (.agg #[.pointer (some ⟨5,177,none⟩)])) w:=by kernel_rfl
theorem Tryz.methodKind (h:Value) (w:World):(Go.method 476 260 (.agg #[h]) "Kind").run Tryz.prog w= .ok (281,h) w:=by kernel_rfl
theorem Tryz.kind68 (w:World):((ReflectliteType.abiMethod fun t=>(fun a:Nat=>Value.int IntKind.u8 (a:Int)) <$> Rtype.kind t) #[.pointer (some ⟨5,177,none⟩)]).run Tryz.prog w= .ok (.int .u8 22) w:=by kernel_rfl
theorem Tryz.kind24 (w:World):((ReflectliteType.abiMethod fun t=>(fun a:Nat=>Value.int IntKind.u8 (a:Int)) <$> Rtype.kind t) #[.pointer (some ⟨5,24,none⟩)]).run Tryz.prog w= .ok (.int .u8 2) w:=by kernel_rfl
theorem Tryz.parts68 (a:Addr) (w:World):(ReflectliteValue.parts (.agg #[.pointer (some ⟨5,177,none⟩),.pointer (some a),.int .u64 150])).run Tryz.prog w= .ok (some (177,a,150)) w:=by kernel_rfl
theorem Tryz.isNil68 (a p:Addr) (W:World) (ha:W.cell? a=some (.pointer (some p))):
  (ReflectliteValue.method (ReflectliteValue.valueError "reflectlite.Value.IsNil" 0) ReflectliteValue.isNil #[.agg #[.pointer (some ⟨5,177,none⟩),.pointer (some a),.int .u64 150]]).run Tryz.prog W= .ok (.bool false) W:=by
 change Sem.run Tryz.prog (ReflectliteValue.parts (.agg #[.pointer (some ⟨5,177,none⟩),.pointer (some a),.int .u64 150]) >>= _) W=_
 simp only[Sem.run_bind,Tryz.parts68,Result.andThen];simp[ReflectliteValue.isNil,loadVar,isAgg,underlying,Tryz.underlying177,ha,Result.andThen]
theorem Tryz.methodElem (h:Value) (w:World):(Go.method 476 260 (.agg #[h]) "Elem").run Tryz.prog w= .ok (296,.agg #[h]) w:=by kernel_rfl
theorem Tryz.methodImplements (h:Value) (w:World):(Go.method 476 260 (.agg #[h]) "Implements").run Tryz.prog w= .ok (297,.agg #[h]) w:=by kernel_rfl
theorem Tryz.methodAssignableTo (h:Value) (w:World):(Go.method 476 260 (.agg #[h]) "AssignableTo").run Tryz.prog w= .ok (294,.agg #[h]) w:=by kernel_rfl
theorem Tryz.elem68 (w:World):(ReflectliteType.method ReflectliteType.elem #[.agg #[.pointer (some ⟨5,177,none⟩)]]).run Tryz.prog w= .ok (.iface 260 (.agg #[.pointer (some ⟨5,24,none⟩)])) w:=by kernel_rfl
theorem Tryz.implements24 (w:World):(ReflectliteType.relation "Implements" ReflectliteType.implements_ #[.agg #[.pointer (some ⟨5,24,none⟩)],.iface 260 (.agg #[.pointer (some ⟨5,29,none⟩)])]).run Tryz.prog w= .ok (.bool true) w:=by kernel_rfl
theorem Tryz.typeOf24 (v:Value) (w:World):(ReflectliteType.typeOf #[.iface 24 v]).run Tryz.prog w= .ok (.iface 260 (.agg #[.pointer (some ⟨5,24,none⟩)])) w:=by kernel_rfl
theorem Tryz.typeOf46 (v:Value) (w:World):(ReflectliteType.typeOf #[.iface 156 v]).run Tryz.prog w= .ok (.iface 260 (.agg #[.pointer (some ⟨5,156,none⟩)])) w:=by kernel_rfl
theorem Tryz.assignable24 (w:World):(ReflectliteType.relation "AssignableTo" ReflectliteType.assignableTo #[.agg #[.pointer (some ⟨5,24,none⟩)],.iface 260 (.agg #[.pointer (some ⟨5,24,none⟩)])]).run Tryz.prog w= .ok (.bool true) w:=by kernel_rfl
theorem Tryz.assignable46 (w:World):(ReflectliteType.relation "AssignableTo" ReflectliteType.assignableTo #[.agg #[.pointer (some ⟨5,156,none⟩)],.iface 260 (.agg #[.pointer (some ⟨5,24,none⟩)])]).run Tryz.prog w= .ok (.bool false) w:=by kernel_rfl
theorem Tryz.valueOf24 (n:Int) (w:World):(ReflectliteValue.unpack (.iface 24 (.int .i64 n))).run Tryz.prog w
  = .ok (.agg #[.pointer (some ⟨5,24,none⟩),.pointer (some ⟨w.heap.size,0,none⟩),.int .u64 130]) (w.alloc (.cells #[.int .i64 n] 24)):=by kernel_rfl
theorem Tryz.elemOf68 (w:World):(Rtype.elem? 177).run Tryz.prog w= .ok (some 24) w:=by kernel_rfl
theorem Tryz.mk24 (p:Addr) (w:World):(ReflectliteValue.mk 24 p ReflectliteValue.flagAddr).run Tryz.prog w= .ok (.agg #[.pointer (some ⟨5,24,none⟩),.pointer (some p),.int .u64 386]) w:=by kernel_rfl
theorem Tryz.elemV68 (a p:Addr) (W:World) (ha:W.cell? a=some (.pointer (some p))):
  (ReflectliteValue.method (ReflectliteValue.valueError "reflectlite.Value.Elem" 0) ReflectliteValue.elem #[.agg #[.pointer (some ⟨5,177,none⟩),.pointer (some a),.int .u64 150]]).run Tryz.prog W
    = .ok (.agg #[.pointer (some ⟨5,24,none⟩),.pointer (some p),.int .u64 386]) W:=by
 change Sem.run Tryz.prog (ReflectliteValue.parts (.agg #[.pointer (some ⟨5,177,none⟩),.pointer (some a),.int .u64 150]) >>= _) W=_
 simp only[Sem.run_bind,Tryz.parts68,Result.andThen];simp[ReflectliteValue.elem,loadVar,isAgg,underlying,Tryz.underlying177,ha,Result.andThen,Tryz.elemOf68,Tryz.mk24]
theorem Tryz.parts24a (a:Addr) (w:World):(ReflectliteValue.parts (.agg #[.pointer (some ⟨5,24,none⟩),.pointer (some a),.int .u64 386])).run Tryz.prog w= .ok (some (24,a,386)) w:=by kernel_rfl
theorem Tryz.parts24 (a:Addr) (w:World):(ReflectliteValue.parts (.agg #[.pointer (some ⟨5,24,none⟩),.pointer (some a),.int .u64 130])).run Tryz.prog w= .ok (some (24,a,130)) w:=by kernel_rfl
theorem Tryz.direct24 (w:World):(Rtype.directlyAssignable 24 24).run Tryz.prog w= .ok true w:=by kernel_rfl
theorem Tryz.set24 (ta b:Addr) (n:Int) (old:Value) (W:World) (hb:W.cell? b=some (.int .i64 n)) (ht:W.cell? ta=some old) (hf:W.frozen? ta=false):
  (ReflectliteValue.set #[.agg #[.pointer (some ⟨5,24,none⟩),.pointer (some ta),.int .u64 386],.agg #[.pointer (some ⟨5,24,none⟩),.pointer (some b),.int .u64 130]]).run Tryz.prog W
    = .ok (.tuple #[]) (W.setCell ta (.int .i64 n)):=by
 change Sem.run Tryz.prog (ReflectliteValue.parts (.agg #[.pointer (some ⟨5,24,none⟩),.pointer (some ta),.int .u64 386]) >>= fun p=>ReflectliteValue.parts (.agg #[.pointer (some ⟨5,24,none⟩),.pointer (some b),.int .u64 130]) >>= _) W=_
 simp only[Sem.run_bind,Tryz.parts24a,Tryz.parts24,Result.andThen];simp[ReflectliteValue.flagAddr,loadVar,isAgg,underlying,Tryz.underlying24,hb,Result.andThen,Tryz.direct24,storeVar,Value.cells,storeCells,Addr.add];rw[run_store Tryz.prog W ta _ _ (by rfl)];simp[ht,hf]
set_option maxHeartbeats 2000000
theorem V9 (n:Int) (t a:Addr) (old:Value) (w:World) (ha:w.cell? a=some (.pointer (some t))) (ht0:w.cell? t=some old) (hf0:w.frozen? t=false):
  Calls Tryz.prog 131 #[.iface 24 (.int .i64 n),.iface 177 (.pointer (some t)),.agg #[.pointer (some ⟨5,177,none⟩),.pointer (some a),.int .u64 150],.iface 260 (.agg #[.pointer (some ⟨5,24,none⟩)])] w
   fun ev w'=>ev= .returned (.bool true)/\w'.cell? t=some (.int .i64 n)/\Below t.block w w':=by
 have h34:= @run_callFunc_extern Tryz.prog 128 _ (fun args=>ReflectliteValue.unpack (args.getD 0 (.tuple #[]))) Tryz.func128 (by kernel_rfl) (by kernel_rfl) (by kernel_rfl) (by kernel_rfl);have h38:= @run_callFunc_extern Tryz.prog 173 _ ReflectliteType.typeOf Tryz.func173 (by kernel_rfl) (by kernel_rfl) (by kernel_rfl) (by kernel_rfl);have h65:= @run_callFunc_extern Tryz.prog 294 _ (ReflectliteType.relation "AssignableTo" ReflectliteType.assignableTo) Tryz.func294 (by kernel_rfl) (by kernel_rfl) (by kernel_rfl) (by kernel_rfl);have h39:= @run_callFunc_extern Tryz.prog 174 _ (ReflectliteValue.method (ReflectliteValue.valueError "reflectlite.Value.Elem" 0) ReflectliteValue.elem) Tryz.func174 (by kernel_rfl) (by kernel_rfl) (by kernel_rfl) (by kernel_rfl);have h40:= @run_callFunc_extern Tryz.prog 175 _ ReflectliteValue.set Tryz.func175 (by kernel_rfl) (by kernel_rfl) (by kernel_rfl) (by kernel_rfl);have tO:=Tryz.typeOf24;have mA:=Tryz.methodAssignableTo;have a24:=Tryz.assignable24;have v24:=Tryz.valueOf24;have htl:t.block<w.heap.size:=World.block_lt_of_cell? w _ ht0;have hal:a.block<w.heap.size:=World.block_lt_of_cell? w _ ha;have el:=Tryz.elemV68 a t (w.alloc (.cells #[.pointer (some ⟨5,177,none⟩),.pointer (some a),.int .u64 150] 216)) (by rw[World.cell?_alloc_lt _ _ a hal];exact ha)
 have st:=Tryz.set24 t ⟨w.heap.size+1,0,none⟩ n old ((w.alloc (.cells #[.pointer (some ⟨5,177,none⟩),.pointer (some a),.int .u64 150] 216)).alloc (.cells #[.int .i64 n] 24))
  (by rw[World.cell?_alloc_at _ _ _ _ (by simp)];rfl)
  (by rw[World.cell?_alloc_lt _ _ t (by simp;omega),World.cell?_alloc_lt _ _ t htl];exact ht0)
  (by rw[World.frozen?_alloc_old _ _ t (by simp;omega),World.frozen?_alloc_old _ _ t (Nat.ne_of_lt htl)];exact hf0)
 go_enter Tryz.func131,Tryz.ntmps131;go_wp2;refine wp_loop_rounds 1 ?_;rw[rounds_succ];go_wp2;go_ret;refine⟨rfl,World.cell?_setCell_same _ _ _ (u:=old) (by rw[World.cell?_alloc_lt _ _ t (by simp;omega),World.cell?_alloc_lt _ _ t htl];exact ht0),?_⟩;exact(((Below.refl t.block w).alloc (Nat.le_of_lt htl) _).alloc (by simp;omega) _).setCell (Nat.le_refl _) _
theorem Tryz.ta91 (b:Nat) (w:World):(Instr.typeAssert (.iface 156 (.pointer (some ⟨b,0,none⟩))) 29 265 true).run Tryz.prog w= .ok (.tuple #[.nilIface,.bool false]) w:=run_typeAssert_lacksB Tryz.underlying265 (by kernel_rfl) (by kernel_rfl) _ _ w
theorem Tryz.ta60 (b:Nat) (w:World):(Instr.typeAssert (.iface 156 (.pointer (some ⟨b,0,none⟩))) 29 159 true).run Tryz.prog w= .ok (.tuple #[.iface 156 (.pointer (some ⟨b,0,none⟩)),.bool true]) w:=by kernel_rfl
theorem Tryz.methodUnwrap (p:Addr) (w:World):(Go.method 476 156 (.pointer (some p)) "Unwrap").run Tryz.prog w= .ok (289,.pointer (some p)) w:=by kernel_rfl
set_option maxHeartbeats 400000
theorem OL (b:Nat) (n:Int) (w:World) (h:w.cell? ⟨b,0,none⟩=some (.int .i64 n)):Calls Tryz.prog 289 #[.pointer (some ⟨b,0,none⟩)] w fun e w'=>e= .returned (.iface 24 (.int .i64 n))/\w'=w:=by
 go_enter Tryz.func289,Tryz.ntmps289;go_wp2;go_ret;exact⟨rfl,rfl⟩
set_option maxHeartbeats 2000000
theorem Xa (b:Nat) (n:Int) (t a:Addr) (old:Value) (w:World) (ha:w.cell? a=some (.pointer (some t))) (ht0:w.cell? t=some old) (hf0:w.frozen? t=false) (hb:w.cell? ⟨b,0,none⟩=some (.int .i64 n)):
  Calls Tryz.prog 131 #[.iface 156 (.pointer (some ⟨b,0,none⟩)),.iface 177 (.pointer (some t)),.agg #[.pointer (some ⟨5,177,none⟩),.pointer (some a),.int .u64 150],.iface 260 (.agg #[.pointer (some ⟨5,24,none⟩)])] w
   fun ev w'=>ev= .returned (.bool true)/\w'.cell? t=some (.int .i64 n)/\Below t.block w w':=by
 have h34:= @run_callFunc_extern Tryz.prog 128 _ (fun args=>ReflectliteValue.unpack (args.getD 0 (.tuple #[]))) Tryz.func128 (by kernel_rfl) (by kernel_rfl) (by kernel_rfl) (by kernel_rfl);have h38:= @run_callFunc_extern Tryz.prog 173 _ ReflectliteType.typeOf Tryz.func173 (by kernel_rfl) (by kernel_rfl) (by kernel_rfl) (by kernel_rfl);have h65:= @run_callFunc_extern Tryz.prog 294 _ (ReflectliteType.relation "AssignableTo" ReflectliteType.assignableTo) Tryz.func294 (by kernel_rfl) (by kernel_rfl) (by kernel_rfl) (by kernel_rfl);have h39:= @run_callFunc_extern Tryz.prog 174 _ (ReflectliteValue.method (ReflectliteValue.valueError "reflectlite.Value.Elem" 0) ReflectliteValue.elem) Tryz.func174 (by kernel_rfl) (by kernel_rfl) (by kernel_rfl) (by kernel_rfl);have h40:= @run_callFunc_extern Tryz.prog 175 _ ReflectliteValue.set Tryz.func175 (by kernel_rfl) (by kernel_rfl) (by kernel_rfl) (by kernel_rfl);have tO:=Tryz.typeOf24;have tO6:=Tryz.typeOf46;have mA:=Tryz.methodAssignableTo;have mU:=Tryz.methodUnwrap;have a24:=Tryz.assignable24;have a46:=Tryz.assignable46;have v24:=Tryz.valueOf24;have htl:t.block<w.heap.size:=World.block_lt_of_cell? w _ ht0;have hal:a.block<w.heap.size:=World.block_lt_of_cell? w _ ha;have hbl:b<w.heap.size:=World.block_lt_of_cell? w _ hb;have el:=Tryz.elemV68 a t (w.alloc (.cells #[.pointer (some ⟨5,177,none⟩),.pointer (some a),.int .u64 150] 216)) (by rw[World.cell?_alloc_lt _ _ a hal];exact ha)
 have st:=Tryz.set24 t ⟨w.heap.size+1,0,none⟩ n old ((w.alloc (.cells #[.pointer (some ⟨5,177,none⟩),.pointer (some a),.int .u64 150] 216)).alloc (.cells #[.int .i64 n] 24))
  (by rw[World.cell?_alloc_at _ _ _ _ (by simp)];rfl)
  (by rw[World.cell?_alloc_lt _ _ t (by simp;omega),World.cell?_alloc_lt _ _ t htl];exact ht0)
  (by rw[World.frozen?_alloc_old _ _ t (by simp;omega),World.frozen?_alloc_old _ _ t (Nat.ne_of_lt htl)];exact hf0)
 go_enter Tryz.func131,Tryz.ntmps131;go_wp2;refine wp_loop_rounds 2 ?_;rw[rounds_succ];have ta1:=Tryz.ta91;have ta2:=Tryz.ta60;go_wp2_with fail;refine(OL b n _ (by rw[World.cell?_alloc_lt _ _ ⟨b,0,none⟩ hbl];exact hb)).mono ?_;rintro _ _ ⟨rfl,rfl⟩;go_wp2;rw[rounds_succ];go_wp2;go_ret;refine⟨rfl,World.cell?_setCell_same _ _ _ (u:=old) (by rw[World.cell?_alloc_lt _ _ t (by simp;omega),World.cell?_alloc_lt _ _ t htl];exact ht0),?_⟩;exact(((Below.refl t.block w).alloc (Nat.le_of_lt htl) _).alloc (by simp;omega) _).setCell (Nat.le_refl _) _
theorem VA (n:Int) (t:Addr) (old:Value) (w:World) (hg:w.cell? ⟨2,0,none⟩=some (.iface 260 (.agg #[.pointer (some ⟨5,29,none⟩)]))) (ht0:w.cell? t=some old) (hf0:w.frozen? t=false):
  Calls Tryz.prog 89 #[.iface 24 (.int .i64 n),.iface 177 (.pointer (some t))] w fun ev w'=>ev= .returned (.bool true)/\w'.cell? t=some (.int .i64 n)/\Below t.block w w':=by
 have h34:= @run_callFunc_extern Tryz.prog 128 _ (fun args=>ReflectliteValue.unpack (args.getD 0 (.tuple #[]))) Tryz.func128 (by kernel_rfl) (by kernel_rfl) (by kernel_rfl) (by kernel_rfl);have h35:= @run_callFunc_extern Tryz.prog 129 _ (ReflectliteValue.methodAny (ReflectliteValue.valueError "reflectlite.Value.Type" 0) (fun t _ _ _=>ReflectliteType.toType t)) Tryz.func129 (by kernel_rfl) (by kernel_rfl) (by kernel_rfl) (by kernel_rfl);have h36:= @run_callFunc_extern Tryz.prog 130 _ (ReflectliteValue.method (ReflectliteValue.valueError "reflectlite.Value.IsNil" 0) ReflectliteValue.isNil) Tryz.func130 (by kernel_rfl) (by kernel_rfl) (by kernel_rfl) (by kernel_rfl);have h55:= @run_callFunc_extern Tryz.prog 281 _ (ReflectliteType.abiMethod fun t=>do pure (.int .u8 (<-Rtype.kind t))) Tryz.func281 (by kernel_rfl) (by kernel_rfl) (by kernel_rfl) (by kernel_rfl);have h67:= @run_callFunc_extern Tryz.prog 296 _ (ReflectliteType.method ReflectliteType.elem) Tryz.func296 (by kernel_rfl) (by kernel_rfl) (by kernel_rfl) (by kernel_rfl);have h68:= @run_callFunc_extern Tryz.prog 297 _ (ReflectliteType.relation "Implements" ReflectliteType.implements_) Tryz.func297 (by kernel_rfl) (by kernel_rfl) (by kernel_rfl) (by kernel_rfl);have f34:=Tryz.valueOf68;have f35:=Tryz.type68;have mK:=Tryz.methodKind;have mE:=Tryz.methodElem;have mI:=Tryz.methodImplements;have k68:=Tryz.kind68;have k24:=Tryz.kind24;have e68:=Tryz.elem68;have i24:=Tryz.implements24;have htl:t.block<w.heap.size:=World.block_lt_of_cell? w _ ht0;have hlt:2<w.heap.size:=World.block_lt_of_cell? w _ hg;have n36:=Tryz.isNil68 ⟨w.heap.size,0,none⟩ t ((w.alloc (.cells #[.pointer (some t)] 177)).alloc (.cells #[.pointer (some ⟨5,177,none⟩),.pointer (some ⟨w.heap.size,0,none⟩),.int .u64 150] 216)) (by simp)
 have hg2:((w.alloc (.cells #[.pointer (some t)] 177)).alloc (.cells #[.pointer (some ⟨5,177,none⟩),.pointer (some ⟨w.heap.size,0,none⟩),.int .u64 150] 216)).cell? ⟨2,0,none⟩=some (.iface 260 (.agg #[.pointer (some ⟨5,29,none⟩)])):=by
  rw[World.cell?_alloc_lt _ _ ⟨2,0,none⟩ (by simp;omega),World.cell?_alloc_lt _ _ ⟨2,0,none⟩ hlt];exact hg
 go_enter Tryz.func89,Tryz.ntmps89;go_wp2_with fail
 refine(V9 n t ⟨w.heap.size,0,none⟩ old _
  (by rw[World.cell?_alloc_lt _ _ ⟨w.heap.size,0,none⟩ (by simp)];simp)
  (by rw[World.cell?_alloc_lt _ _ t (by simp;omega),World.cell?_alloc_lt _ _ t htl];exact ht0)
  (by rw[World.frozen?_alloc_old _ _ t (by simp;omega),World.frozen?_alloc_old _ _ t (Nat.ne_of_lt htl)];exact hf0)).mono ?_
 rintro _ w1 ⟨rfl,hc,hb1⟩;go_wp2;go_ret;exact⟨rfl,hc,(((Below.refl t.block w).alloc (Nat.le_of_lt htl) _).alloc (by simp;omega) _).trans hb1⟩
theorem Xb (b:Nat) (n:Int) (t:Addr) (old:Value) (w:World) (hg:w.cell? ⟨2,0,none⟩=some (.iface 260 (.agg #[.pointer (some ⟨5,29,none⟩)]))) (ht0:w.cell? t=some old) (hf0:w.frozen? t=false) (hb:w.cell? ⟨b,0,none⟩=some (.int .i64 n)):
  Calls Tryz.prog 89 #[.iface 156 (.pointer (some ⟨b,0,none⟩)),.iface 177 (.pointer (some t))] w fun ev w'=>ev= .returned (.bool true)/\w'.cell? t=some (.int .i64 n)/\Below t.block w w':=by
 have h34:= @run_callFunc_extern Tryz.prog 128 _ (fun args=>ReflectliteValue.unpack (args.getD 0 (.tuple #[]))) Tryz.func128 (by kernel_rfl) (by kernel_rfl) (by kernel_rfl) (by kernel_rfl);have h35:= @run_callFunc_extern Tryz.prog 129 _ (ReflectliteValue.methodAny (ReflectliteValue.valueError "reflectlite.Value.Type" 0) (fun t _ _ _=>ReflectliteType.toType t)) Tryz.func129 (by kernel_rfl) (by kernel_rfl) (by kernel_rfl) (by kernel_rfl);have h36:= @run_callFunc_extern Tryz.prog 130 _ (ReflectliteValue.method (ReflectliteValue.valueError "reflectlite.Value.IsNil" 0) ReflectliteValue.isNil) Tryz.func130 (by kernel_rfl) (by kernel_rfl) (by kernel_rfl) (by kernel_rfl);have h55:= @run_callFunc_extern Tryz.prog 281 _ (ReflectliteType.abiMethod fun t=>do pure (.int .u8 (<-Rtype.kind t))) Tryz.func281 (by kernel_rfl) (by kernel_rfl) (by kernel_rfl) (by kernel_rfl);have h67:= @run_callFunc_extern Tryz.prog 296 _ (ReflectliteType.method ReflectliteType.elem) Tryz.func296 (by kernel_rfl) (by kernel_rfl) (by kernel_rfl) (by kernel_rfl);have h68:= @run_callFunc_extern Tryz.prog 297 _ (ReflectliteType.relation "Implements" ReflectliteType.implements_) Tryz.func297 (by kernel_rfl) (by kernel_rfl) (by kernel_rfl) (by kernel_rfl);have f34:=Tryz.valueOf68;have f35:=Tryz.type68;have mK:=Tryz.methodKind;have mE:=Tryz.methodElem;have mI:=Tryz.methodImplements;have k68:=Tryz.kind68;have k24:=Tryz.kind24;have e68:=Tryz.elem68;have i24:=Tryz.implements24;have htl:t.block<w.heap.size:=World.block_lt_of_cell? w _ ht0;have hlt:2<w.heap.size:=World.block_lt_of_cell? w _ hg;have hbl:b<w.heap.size:=World.block_lt_of_cell? w _ hb;have n36:=Tryz.isNil68 ⟨w.heap.size,0,none⟩ t ((w.alloc (.cells #[.pointer (some t)] 177)).alloc (.cells #[.pointer (some ⟨5,177,none⟩),.pointer (some ⟨w.heap.size,0,none⟩),.int .u64 150] 216)) (by simp)
 have hg2:((w.alloc (.cells #[.pointer (some t)] 177)).alloc (.cells #[.pointer (some ⟨5,177,none⟩),.pointer (some ⟨w.heap.size,0,none⟩),.int .u64 150] 216)).cell? ⟨2,0,none⟩=some (.iface 260 (.agg #[.pointer (some ⟨5,29,none⟩)])):=by
  rw[World.cell?_alloc_lt _ _ ⟨2,0,none⟩ (by simp;omega),World.cell?_alloc_lt _ _ ⟨2,0,none⟩ hlt];exact hg
 go_enter Tryz.func89,Tryz.ntmps89;go_wp2_with fail
 refine(Xa b n t ⟨w.heap.size,0,none⟩ old _
  (by rw[World.cell?_alloc_lt _ _ ⟨w.heap.size,0,none⟩ (by simp)];simp)
  (by rw[World.cell?_alloc_lt _ _ t (by simp;omega),World.cell?_alloc_lt _ _ t htl];exact ht0)
  (by rw[World.frozen?_alloc_old _ _ t (by simp;omega),World.frozen?_alloc_old _ _ t (Nat.ne_of_lt htl)];exact hf0)
  (by rw[World.cell?_alloc_lt _ _ ⟨b,0,none⟩ (by simp;omega),World.cell?_alloc_lt _ _ ⟨b,0,none⟩ hbl];exact hb)).mono ?_
 rintro _ w1 ⟨rfl,hc,hb1⟩;go_wp2;go_ret;exact⟨rfl,hc,(((Below.refl t.block w).alloc (Nat.le_of_lt htl) _).alloc (by simp;omega) _).trans hb1⟩
def HG (w:World):Prop:=w.cell? ⟨2,0,none⟩=some (.iface 260 (.agg #[.pointer (some ⟨5,29,none⟩)]))
theorem HG.lt {w:World} (h:HG w):2<w.heap.size:=World.block_lt_of_cell? w _ h
theorem HG.below {w w':World} {B:Nat} (h:HG w) (hb:Below B w w') (hB:2<B):HG w':=(hb.cell (p:=⟨2,0,none⟩) hB).trans h
theorem MY (w:World):Calls Tryz.prog 54 #[.nilIface] w fun e w'=>e= .returned (.int .i64 0)/\w'=w:=by
 go_enter Tryz.func54,Tryz.ntmps54;go_wp2;go_ret;exact⟨rfl,rfl⟩
set_option maxHeartbeats 1000000
theorem MZ (n:Int) (w:World) (hg:HG w):Calls Tryz.prog 54 #[.iface 24 (.int .i64 n)] w fun e w'=>e= .returned (.int .i64 n)/\Below w.heap.size w w':=by
 have hg2:(w.alloc (.cells #[.int .i64 0] 24)).cell? ⟨2,0,none⟩=some (.iface 260 (.agg #[.pointer (some ⟨5,29,none⟩)])):=by
  rw[World.cell?_alloc_lt _ _ ⟨2,0,none⟩ hg.lt];exact hg
 have HGH:Hid _:=hg2;clear hg2 hg;go_enter Tryz.func54,Tryz.ntmps54;go_wp2_with fail;refine(VA n ⟨w.heap.size,0,none⟩ (.int .i64 0) _ HGH.out (by simp) (by simp)).mono ?_;rintro _ w1 ⟨rfl,hc,hb1⟩;have hb:Below w.heap.size w w1:=((Below.refl _ w).alloc (Nat.le_refl _) _).trans hb1;clear hb1;go_wp2;go_ret;exact⟨rfl,hb⟩
theorem VP (b:Nat) (n:Int) (w:World) (hg:HG w) (hb:w.cell? ⟨b,0,none⟩=some (.int .i64 n)):Calls Tryz.prog 54 #[.iface 156 (.pointer (some ⟨b,0,none⟩))] w fun e w'=>e= .returned (.int .i64 n)/\Below w.heap.size w w':=by
 have hg2:(w.alloc (.cells #[.int .i64 0] 24)).cell? ⟨2,0,none⟩=some (.iface 260 (.agg #[.pointer (some ⟨5,29,none⟩)])):=by
  rw[World.cell?_alloc_lt _ _ ⟨2,0,none⟩ hg.lt];exact hg
 have hb2:(w.alloc (.cells #[.int .i64 0] 24)).cell? ⟨b,0,none⟩=some (.int .i64 n):=by
  rw[World.cell?_alloc_lt _ _ ⟨b,0,none⟩ (World.block_lt_of_cell? w _ hb)];exact hb
 have HGH:Hid _:=hg2;have HB:Hid _:=hb2;clear hg2 hg hb2 hb;go_enter Tryz.func54,Tryz.ntmps54;go_wp2_with fail;refine(Xb b n ⟨w.heap.size,0,none⟩ (.int .i64 0) _ HGH.out (by simp) (by simp) HB.out).mono ?_;rintro _ w1 ⟨rfl,hc,hb1⟩;have hb:Below w.heap.size w w1:=((Below.refl _ w).alloc (Nat.le_refl _) _).trans hb1;clear hb1;go_wp2;go_ret;exact⟨rfl,hb⟩
theorem Tryz.ta46n (n:Int) (w:World):(Instr.typeAssert (.iface 24 (.int .i64 n)) 29 156 true).run Tryz.prog w= .ok (.tuple #[.pointer none,.bool false]) w:=by kernel_rfl
theorem Tryz.ta60n (n:Int) (w:World):(Instr.typeAssert (.iface 24 (.int .i64 n)) 29 159 true).run Tryz.prog w= .ok (.tuple #[.nilIface,.bool false]) w:=run_typeAssert_lacksB Tryz.underlying159 (by kernel_rfl) (by kernel_rfl) _ _ w
theorem Tryz.ta46y (b:Nat) (w:World):(Instr.typeAssert (.iface 156 (.pointer (some ⟨b,0,none⟩))) 29 156 true).run Tryz.prog w= .ok (.tuple #[.pointer (some ⟨b,0,none⟩),.bool true]) w:=by kernel_rfl
theorem RH (w:World):Calls Tryz.prog 47 #[.nilIface] w fun e w'=>e= .returned (.tuple #[.int .i64 0,.int .i64 (-1)])/\Below w.heap.size w w':=by
 go_enter Tryz.func47,Tryz.ntmps47
 go_wp2_with (go_at_call 54;refine(MY _).mono ?_;rintro _ _ ⟨rfl,rfl⟩)
 refine wp_loop_rounds 1 ?_;rw[rounds_succ];go_wp2;go_ret2;exact⟨rfl,Below.refl _ _⟩
theorem NC (n:Int) (w:World) (hg:HG w):Calls Tryz.prog 47 #[.iface 24 (.int .i64 n)] w fun e w'=>e= .returned (.tuple #[.int .i64 n,.int .i64 (-1)])/\Below w.heap.size w w':=by
 have t1:=Tryz.ta46n;have t2:=Tryz.ta60n;go_enter Tryz.func47,Tryz.ntmps47;go_wp2_with fail;refine(MZ n _ hg).mono ?_;rintro _ w1 ⟨rfl,hb⟩;go_wp2;refine wp_loop_rounds 1 ?_;rw[rounds_succ];go_wp2;go_ret2;exact⟨rfl,hb⟩
theorem TT (b:Nat) (n j:Int) (w:World) (hg:HG w) (h0:w.cell? ⟨b,0,none⟩=some (.int .i64 n)) (h1:w.cell? ⟨b,1,none⟩=some (.int .i64 j)):
  Calls Tryz.prog 47 #[.iface 156 (.pointer (some ⟨b,0,none⟩))] w fun e w'=>e= .returned (.tuple #[.int .i64 n,.int .i64 j])/\Below w.heap.size w w':=by
 have t1:=Tryz.ta46y;have hbl:b<w.heap.size:=World.block_lt_of_cell? w _ h0;go_enter Tryz.func47,Tryz.ntmps47;go_wp2_with fail;refine(VP b n _ hg h0).mono ?_;rintro _ w1 ⟨rfl,hb⟩;have k1:w1.cell? ⟨b,1,none⟩=some (.int .i64 j):=(hb.cell (p:=⟨b,1,none⟩) hbl).trans h1;go_wp2;refine wp_loop_rounds 1 ?_;rw[rounds_succ];go_wp2_with fail
 go_region
 go_wp2;go_ret2;exact⟨rfl,hb.drew⟩
end
end Go.Proofs.YtgfldnaahojnlaaGreatDoor
