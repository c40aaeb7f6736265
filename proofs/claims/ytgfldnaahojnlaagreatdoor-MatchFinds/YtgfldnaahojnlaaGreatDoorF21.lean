/- MatchFinds: part 21. -/
import Derived.Test.YtgfldnaahojnlaaGreatDoorF20
import Derived.Sort.OwnSorted
import Derived.Maps.Own
import Derived.Maps.OwnOps
import Derived.Maps.OwnSet
import Derived.Maps.Ext
import Derived.StringKeys
set_option maxRecDepth 100000
set_option maxHeartbeats 4000000
namespace Go.Proofs.YtgfldnaahojnlaaGreatDoor
section
open Go.RowKit Go.Maps
def C5 (nm wd:ByteArray):List Pc->List Pl
 | []=>[]
 |c::l=>if c.n=nm/\c.w=wd then c.l++C5 nm wd l else C5 nm wd l
theorem IV (nm wd:ByteArray):∀(a b:List Pc),C5 nm wd (a++b)=C5 nm wd a++C5 nm wd b
 | [],b=>by simp[C5]
 |c::a,b=>by
  rw[List.cons_append,C5,C5,IV nm wd a b];split
  ·rw[List.append_assoc]
  ·rfl
theorem Lm (nm wd:ByteArray) {L:List Pc} {k:Nat} (hk:k<L.length):C5 nm wd (L.take (k+1))=C5 nm wd (L.take k)++(if L[k].n=nm/\L[k].w=wd then L[k].l else []):=by
 rw[List.take_succ_eq_append_getElem hk,IV];congr 1;simp only[C5];split<;>simp
theorem Hy (nm wd:ByteArray):∀(L:List Pc),(C5 nm wd L).length<=Ef L
 | []=>by simp[C5]
 |c::l=>by
  have:=Hy nm wd l;unfold C5 Ef;split
  ·rw[List.length_append];omega
  ·omega
theorem F0 {a b:ByteArray} (h:¬a=b):(a.toList == b.toList)=false:=by
 rw[beq_eq_false_iff_ne,ByteArray.toList_eq,ByteArray.toList_eq];exact fun e=>h (Dy e)
def PlV (B C:Nat) (xs:List Pl) (w:World):Prop:=∃v,Af C v w/\w.ownsRow B 81 2 v xs.length (plc xs)
set_option maxHeartbeats 1000000
theorem RG {Bn Bw Bl:Nat} {n c:Nat} {nm wd wc:ByteArray} {a:Option Addr} (w:World) (h1:Af Bn (.string nm) w) (h2:Af Bw (.string wd) w) (hne:¬wc=wd):
  Calls Tryz.prog 190 #[.agg #[.string nm,.string wc,.slice a n c],.pointer (some ⟨Bn,0,none⟩),.pointer (some ⟨Bw,0,none⟩),.pointer (some ⟨Bl,0,none⟩)] w fun e w'=>e= .returned (.tuple #[])/\Below w.heap.size w w':=by
 have hbB:Below w.heap.size w (w.alloc (.cells #[.string nm,.string wc,.slice a n c] 135)):=(Below.refl _ w).alloc (Nat.le_refl _) _;have HV:Hid (Cp w.heap.size [.string nm,.string wc,.slice a n c] (w.alloc (.cells #[.string nm,.string wc,.slice a n c] 135))):=Cp.new w #[.string nm,.string wc,.slice a n c] 135 (by simp);have c0:=(h1.below hbB).cell;have c1:=(h2.below hbB).cell;have d0:=HV.out.c3.1;have d1:=HV.out.c3.2.1;have l1:=h1.lt;have l2:=h2.lt;have HB:Hid _:=hbB;have hq:=F0 hne;clear h1 h2 hbB;go_enter Tryz.func190,Tryz.ntmps190;go_wp2;go_end0;exact⟨rfl,HB.out⟩
theorem Pi {Bn Bw Bl:Nat} {n c:Nat} {nm nc wd wc:ByteArray} {a:Option Addr} (w:World) (h1:Af Bn (.string nm) w) (h2:Af Bw (.string wd) w) (hne:¬nc=nm):
  Calls Tryz.prog 190 #[.agg #[.string nc,.string wc,.slice a n c],.pointer (some ⟨Bn,0,none⟩),.pointer (some ⟨Bw,0,none⟩),.pointer (some ⟨Bl,0,none⟩)] w fun e w'=>e= .returned (.tuple #[])/\Below w.heap.size w w':=by
 have hbB:Below w.heap.size w (w.alloc (.cells #[.string nc,.string wc,.slice a n c] 135)):=(Below.refl _ w).alloc (Nat.le_refl _) _;have HV:Hid (Cp w.heap.size [.string nc,.string wc,.slice a n c] (w.alloc (.cells #[.string nc,.string wc,.slice a n c] 135))):=Cp.new w #[.string nc,.string wc,.slice a n c] 135 (by simp);have c0:=(h1.below hbB).cell;have c1:=(h2.below hbB).cell;have d0:=HV.out.c3.1;have d1:=HV.out.c3.2.1;have l1:=h1.lt;have l2:=h2.lt;have HB:Hid _:=hbB;have hq:=F0 hne;clear h1 h2 hbB;go_enter Tryz.func190,Tryz.ntmps190;go_wp2;go_end0;exact⟨rfl,HB.out⟩
theorem Ph {B Bn Bw Bl B5:Nat} {nm wd:ByteArray} {v:Value} {xs ys:List Pl} (w:World) (h1:Af Bn (.string nm) w) (h2:Af Bw (.string wd) w) (h3:PlV B Bl xs w) (hlB:Bl<B) (hv:w.ownsRow B5 81 2 v ys.length (plc ys)) (hpos:0<ys.length) (hl:xs.length+ys.length<=1000000) (hB2:B<=w.heap.size):
  Calls Tryz.prog 190 #[.agg #[.string nm,.string wd,v],.pointer (some ⟨Bn,0,none⟩),.pointer (some ⟨Bw,0,none⟩),.pointer (some ⟨Bl,0,none⟩)] w fun e w'=>e= .returned (.tuple #[])/\PlV B Bl (xs++ys) w'/\Aa (fun b=>b=Bl\/B<=b) w w':=by
 obtain⟨u,u1,u2⟩:=h3;obtain⟨i0,hi0,hz0,hz1,hz2⟩:=A5 He;obtain⟨n,hn⟩:∃n,ys.length=n:=⟨_,rfl⟩;have HN:Hid _:=hn;rw[hn]at hv hpos hl;obtain⟨g5,cap5,rfl,k1,k2⟩:=World.ownsRow.form hv hpos;have hbB:Below w.heap.size w (w.alloc (.cells #[.string nm,.string wd,.slice (some ⟨g5,0,none⟩) n cap5] 135)):=(Below.refl _ w).alloc (Nat.le_refl _) _;have HV:Hid (Cp w.heap.size [.string nm,.string wd,.slice (some ⟨g5,0,none⟩) n cap5] (w.alloc (.cells #[.string nm,.string wd,.slice (some ⟨g5,0,none⟩) n cap5] 135))):=Cp.new w #[.string nm,.string wd,.slice (some ⟨g5,0,none⟩) n cap5] 135 (by simp);have HU1:Hid (Af Bl u (w.alloc (.cells #[.string nm,.string wd,.slice (some ⟨g5,0,none⟩) n cap5] 135))):=u1.below hbB;have HU2:Hid ((w.alloc (.cells #[.string nm,.string wd,.slice (some ⟨g5,0,none⟩) n cap5] 135)).ownsRow B 81 2 u xs.length (plc xs)):=As u2 hbB;have HS:Hid ((w.alloc (.cells #[.string nm,.string wd,.slice (some ⟨g5,0,none⟩) n cap5] 135)).ownsRow B5 81 2 (.slice (some ⟨g5,0,none⟩) n cap5) n (plc ys)):=As hv hbB;have c0:=(h1.below hbB).cell;have c1:=(h2.below hbB).cell;have c2:=HU1.out.cell;have d0:=HV.out.c3.1;have d1:=HV.out.c3.2.1;have d2:=HV.out.c3.2.2;have l1:=h1.lt;have l2:=h2.lt;have l3:=u1.lt;have HB:Hid _:=hbB;clear h1 h2 hbB u1 u2 hv hn;go_enter Tryz.func190,Tryz.ntmps190
 go_wp2_with (at_builtin;refine wpList_append_lies _ rfl _ _ 91 rfl B 81 i0 (.agg #[.int .i64 0,.int .i64 0]) 2 16 Tryz.underlying91 hi0 hz0 hz1 hz2 rfl (by decide) _ _ _ rfl HU2.out ⟨g5,0,none⟩ n cap5 (plc ys) rfl (by rw[Pf,HN.out]) (fun j u hu=>HS.out.cells rfl j u hu) (Qx ys) hpos (by simp only[maxLen];omega) (by omega) (by rw[World.size_alloc];omega) _ rfl ?_;intro g' cap' w' hO hG hat hlt';have hU9:Af Bl u w':=HU1.out.block (hG.block Bl HU1.out.lt (fun e=>by have:=(World.ownsRow.lt HU2.out Bl e.symm).1;omega));have f9:=hU9.free;have c9:=hU9.cell)
 go_end0;refine⟨rfl,⟨_,hU9.set _,?_⟩,?_⟩
 ·rw[List.length_append,HN.out,Cc]
  exact Jn hO (by omega)
 ·have e1:Aa (fun b=>b=Bl\/B<=b) w w':=(Ab HB.out _).trans (AI (S:=fun b=>b=Bl\/B<=b) hG (fun k e=> .inr (World.ownsRow.lt HU2.out k e).1)) (fun _ e=> .inl e)
  exact e1.trans (Aa.set Bl 0 _ _) (fun _ e=> .inl (.inl e))
def Hm (nm wd:ByteArray):ByteArray:=BD nm wd++⟨#[0]⟩
theorem V5 (c:Pc):pfx (Hm c.n c.w) 0 c.pr.k=true:=by
 unfold pfx Lib.hasPrefix;refine List.isPrefixOf_iff_prefix.2 ⟨Fd c.r,?_⟩;show(Hm c.n c.w).data.toList++Fd c.r=(CM c.n c.w c.r).data.toList;rw[Fq];simp[Hm,BD]
theorem EU (nm wd:ByteArray):∀(L:List Pc),C5 nm wd (L.filter (fun c=>pfx (Hm nm wd) 0 c.pr.k))=C5 nm wd L
 | []=>rfl
 |c::l=>by
  rw[List.filter_cons]
  by_cases h:c.n=nm/\c.w=wd
  ·have hb:pfx (Hm nm wd) 0 c.pr.k=true:=by rw[<-h.1,<-h.2];exact V5 c
   rw[hb,if_pos rfl,C5,C5,if_pos h,if_pos h,EU nm wd l]
  ·rw[C5,if_neg h]
   split
   ·rw[C5,if_neg h,EU nm wd l]
   ·exact EU nm wd l
section
variable {bf bt bp bd bm N:Nat} {up:Nat->Bool} {V:Pst} {T:Tr} {w:World} {L:List Pc}
theorem Pj (h:Fs bf bt bp bd bm N up V T w) {m:Int} (hm:w.cell? ⟨1,0,none⟩=some (.int .i64 m)) (hL:∀c∈L,c.Ok) (hps:T.all=L.map Pc.pr) (hLl:L.length<=10000) (nm wd:ByteArray) (hnm:nm.size<=100) (hwd:wd.size<=100):
  Calls Tryz.prog 145 #[.pointer (some ⟨bf,0,none⟩),.string nm,.string wd] w fun e w'=>∃v,e= .returned (.tuple #[v,.nilIface])/\w'.ownsRow w.heap.size 81 2 v (C5 nm wd L).length (plc (C5 nm wd L))/\Below w.heap.size w w':=by
 obtain⟨w0,hw0⟩:∃w0,((w.alloc (.cells #[.string nm] 9)).alloc (.cells #[.string wd] 9)).alloc (.cells #[.slice none 0 0] 91)=w0:=⟨_,rfl⟩;have hbB:Below w.heap.size w w0:=by rw[<-hw0];exact(((Below.refl _ w).alloc (Nat.le_refl _) _).alloc (by simp) _).alloc (by simp only[World.size_alloc];omega) _
 have hsz:w0.heap.size=w.heap.size+3:=by rw[<-hw0];simp
 have o1:Af w.heap.size (.string nm) w0:=by
  rw[<-hw0];exact((Af.new w (.string nm) 9).below ((Below.refl _ _).alloc (Nat.le_refl _) _)).below ((Below.refl _ _).alloc (Nat.le_refl _) _)
 have o2:Af (w.heap.size+1) (.string wd) w0:=by
  rw[<-hw0];have:=Af.new (w.alloc (.cells #[.string nm] 9)) (.string wd) 9;rw[World.size_alloc]at this;exact this.below ((Below.refl _ _).alloc (Nat.le_refl _) _)
 have o3:Af (w.heap.size+2) (.slice none 0 0) w0:=by
  rw[<-hw0];have:=Af.new ((w.alloc (.cells #[.string nm] 9)).alloc (.cells #[.string wd] 9)) (.slice none 0 0) 91;rw[World.size_alloc,World.size_alloc]at this;exact this
 have hmf:∀(fn:Fn) (first cap:Array Value) (w:World),(Instr.makeFunc fn first cap).run Tryz.prog w= .ok (.func fn first cap) w:=fun _ _ _ _=>rfl;have hm2:1<w.heap.size:=World.block_lt_of_cell? _ _ hm
 have hwk:BJ (pfx (Hm nm wd)) (Hm nm wd) 0 T.all=(L.filter (fun c=>pfx (Hm nm wd) 0 c.pr.k)).map Pc.pr:=by
  rw[MW (Hm nm wd) T.all 0 h.sorted,hps,List.filter_map];rfl
 have hpf:=EU nm wd L;have hcnt:=Ju hL;have hlen:=Hy nm wd L;have hLf:∀c∈L.filter (fun c=>pfx (Hm nm wd) 0 c.pr.k),c.Ok:=fun c hc=>hL c ((List.mem_filter.1 hc).1);have hLfl:(L.filter (fun c=>pfx (Hm nm wd) 0 c.pr.k)).length<=10000:=Nat.le_trans (List.length_filter_le _ _) hLl;generalize L.filter (fun c=>pfx (Hm nm wd) 0 c.pr.k)=L' at *
 have HLK:Hid (Calls Tryz.prog 55 #[.pointer (some ⟨bf,0,none⟩),.string (Hm nm wd),.func (.func 190) #[] #[.pointer (some ⟨w.heap.size,0,none⟩),.pointer (some ⟨w.heap.size+1,0,none⟩),.pointer (some ⟨w.heap.size+2,0,none⟩)]] w0 fun e w'=>e= .returned .nilIface/\(∃B,w0.heap.size<=B/\(Af w.heap.size (.string nm) w'/\Af (w.heap.size+1) (.string wd) w'/\PlV B (w.heap.size+2) (C5 nm wd (L'.take L'.length)) w'))/\Aa (fun b=>b=w.heap.size+2) w0 w'):=by
  refine Kf (I:=fun B k wx=>Af w.heap.size (.string nm) wx/\Af (w.heap.size+1) (.string wd) wx/\PlV B (w.heap.size+2) (C5 nm wd (L'.take k)) wx) (h.below hbB) (AP hbB hm) (Hm nm wd) hLf hwk hLfl (fun b e=> ?_) (enters_of Tryz.func190 (by kernel_rfl) rfl) (fun B wx h1 h2 h3=>⟨o1.below h3,o2.below h3,_,o3.below h3,World.ownsRow_nil _ _ _ _⟩) (fun B k hk v wr wx h1 h2 h3 h4 h5=> ?_)
  ·subst e;exact⟨by omega,by omega⟩
  ·obtain⟨j1,j2,v3,j3,j4⟩:=h3
   have hok:=hLf L'[k] (List.getElem_mem hk);have hsb:=h4.size
   have hlk:(C5 nm wd (L'.take k)).length<=200000:=by
    have a1:=Hy nm wd (L'.take k);have a2:=Ju (L:=L'.take k) (fun c hc=>hLf c (List.mem_of_mem_take hc));rw[List.length_take]at a2;omega
   by_cases hw:L'[k].n=nm/\L'[k].w=wd
   ·refine(show Calls _ _ _ _ _ from ?_).mono (fun e w' hh=>hh)
    have hl20:=hok.len;have:=Ph (Bl:=w.heap.size+2) wx (j1.below h4) (j2.below h4) ⟨v3,j3.below h4,As j4 h4⟩ (by omega) h5 hok.pos (by omega) (by omega);rw[hw.1,hw.2];refine this.mono ?_;rintro e w' ⟨rfl,g1,g2⟩;refine⟨rfl,⟨(j1.below h4).only g2 (by omega),(j2.below h4).only g2 (by omega),?_⟩,g2.mono (fun _ e=>e)⟩;rw[Lm nm wd hk,if_pos hw];exact g1
   ·obtain⟨a5,c5,rfl⟩:=Bz h5
    refine(show Calls _ _ _ _ (fun e w'=>e= .returned (.tuple #[])/\Below wx.heap.size wx w')from by
     by_cases hn:L'[k].n=nm
     ·rw[hn];exact RG (Bl:=w.heap.size+2) wx (j1.below h4) (j2.below h4) (fun e=>hw ⟨hn,e⟩)
     ·exact Pi (Bl:=w.heap.size+2) wx (j1.below h4) (j2.below h4) hn).mono ?_
    rintro e w' ⟨rfl,g1⟩;refine⟨rfl,⟨(j1.below h4).below g1,(j2.below h4).below g1,?_⟩,Ab g1 _⟩;rw[Lm nm wd hk,if_neg hw,List.append_nil];exact⟨v3,(j3.below h4).below g1,As (As j4 h4) g1⟩
 have HB:Hid _:=hbB;have HSZ:Hid _:=hsz;rw[List.take_length,hpf]at HLK;have c1:=o1.cell;have c2:=o2.cell;have hadd:=FR (BD nm wd) ⟨#[0]⟩ (by rw[EQ];show nm.size+1+wd.size+1<=_;omega);have HSA:Hid _:=GU nm wd (by omega) (by omega);rw[show BD nm wd++⟨#[0]⟩=Hm nm wd from rfl]at hadd;clear hbB o1 o2 o3 hm hL hps hwk h hpf hcnt hlen hLf hLfl hsz;go_enter Tryz.func145,Tryz.ntmps145;go_wp2_with fail;refine(show Calls _ _ _ _ _ from HSA.out w0).mono ?_;rintro _ w9 ⟨rfl,h9⟩;obtain rfl:=h9.symm;clear h9;go_wp2_with fail;refine(show Calls _ _ _ _ _ from HLK.out).mono ?_;rintro _ w2 ⟨rfl,⟨B,hB0,_,_,v,hO,hR⟩,ho⟩;have HB2:Hid (Below w.heap.size w w2):=Aa.below HB.out ho HB.out.size (fun b e=>by omega);have HR:Hid (w2.ownsRow w.heap.size 81 2 v (C5 nm wd L).length (plc (C5 nm wd L))):=Du hR (by have:=HSZ.out;omega);have c0:w2.cell? ⟨w.heap.size+1+1,0,none⟩=some v:=hO.cell;clear hO ho hR;go_wp2;go_ret2;exact⟨_,rfl,HR.out,HB2.out⟩
end
theorem VY {w:World} {B g n k cap:Nat} {e:TypeId} {xs:List Value} (h:w.ownsRow B e 1 (.slice (some ⟨g,0,none⟩) n cap) n xs) (hk:k<=n):w.ownsRow B e 1 (.slice (some ⟨g,0,none⟩) k cap) k (xs.take k):=by
 refine⟨by rw[List.length_take,h.1];omega,.inr ?_⟩;rcases h.2 with⟨e1,_⟩|⟨g',cap',cur,e1,h1,h2,h3,h4,h5,h6⟩
 ·cases e1
 ·cases e1
  refine⟨g,cap,cur,rfl,h1,h2,by omega,h4,h5,?_⟩;rw[<-h6,List.take_take];congr 1;omega
theorem K4 {α:Type} [Inhabited α] [DecidableEq α] (zs:List α):(Lib.compact zs).length<=zs.length:=by
 unfold Lib.compact Lib.compactUpTo;rw[List.length_map];exact Nat.le_trans (List.length_filter_le _ _) (by rw[List.length_range];exact Nat.le_refl _)
theorem Ov {B:Nat} {v:Value} {w:World} {zs:List (List UInt8)} (h:w.ownsRow B 9 1 v zs.length (zs.map encStr)):
  Calls Tryz.prog 195 #[v] w fun e w'=>∃v',e= .returned v'/\w'.ownsRow B 9 1 v' (Lib.compact zs).length ((Lib.compact zs).map encStr)/\Aa (fun b=>B<=b) w w':=by
 rcases h.2 with⟨rfl,h0⟩|⟨g,cap,cur,rfl,h1,h2,h3,h4,h5,h6⟩
 ·have:zs=[]:=List.length_eq_zero_iff.1 h0
  subst this;refine(Tryz.slices_Compact_string_empty none 0 w).mono ?_;rintro _ _ ⟨rfl,rfl⟩;exact⟨_,rfl,World.ownsRow_nil _ _ _ _,Aa.refl _ _⟩
 ·rw[Nat.mul_one]at h6
  refine(Tryz.slices_Compact_string g 0 cap zs w (holds_of_block h2 h6) (VX h) h3).mono ?_;have hcl:=K4 zs;rintro _ _ ⟨rfl,q,rfl⟩;have hg:∀x:World,x=Go.Sort.grow x #[]:=fun x=>by simp[Go.Sort.grow]
  rw[hg (Go.Sort.putRow _ _ _ _ _)];refine⟨_,rfl,?_,?_⟩
  ·have ho:=ownsRow_sorted (w:=w) (base:=B) (g:=g) (cap:=cap) (n:=q) (os:= #[]) (ss:=zs) (ts:=Lib.compact zs++List.replicate (zs.length-(Lib.compact zs).length) []) (by rw[List.length_append,List.length_replicate];omega) h1 h2 h3 h4 h5
   have:=VY ho hcl;rw[List.map_append,List.take_left' (by rw[List.length_map])]at this;exact this
  ·exact AI (grownBy_sorted _) (fun b e=>by cases e;exact h1)
def FN (ws:List ByteArray):List ByteArray:=(Lib.compact (ws.map (fun w=>w.data.toList))).map (fun l=>⟨l.toArray⟩)
def isB (nm s:ByteArray) (c:Pc):Bool:=decide (c.n=nm) && Lib.hasPrefix c.w.data.toList s.data.toList
def Cn (nm s:ByteArray) (L:List Pc):List ByteArray:=(L.filter (isB nm s)).map Pc.w
theorem LJ (nm s:ByteArray) {L:List Pc} {k:Nat} (hk:k<L.length):Cn nm s (L.take (k+1))=Cn nm s (L.take k)++(if isB nm s L[k]=true then [L[k].w]else []):=by
 unfold Cn;rw[List.take_succ_eq_append_getElem hk,List.filter_append,List.map_append];congr 1;rw[List.filter_cons];split<;>simp
theorem O6 (nm s:ByteArray) (L:List Pc):(Cn nm s L).length<=L.length:=by
 unfold Cn;rw[List.length_map];exact List.length_filter_le _ _
def SlV (B C:Nat) (xs:List ByteArray) (w:World):Prop:=∃v,Af C v w/\w.ownsRow B 9 1 v xs.length (sc xs)
theorem Tb {B Bn Bs Bl n c:Nat} {nm ss wd:ByteArray} {a:Option Addr} {xs:List ByteArray} (w:World) (h1:Af Bn (.string nm) w) (h2:Af Bs (.string ss) w) (hpf:Lib.hasPrefix wd.data.toList ss.data.toList=true) (h3:SlV B Bl xs w) (hlB:Bl<B) (hl:xs.length<=1000000) (hB2:B<=w.heap.size):
  Calls Tryz.prog 194 #[.agg #[.string nm,.string wd,.slice a n c],.pointer (some ⟨Bn,0,none⟩),.pointer (some ⟨Bs,0,none⟩),.pointer (some ⟨Bl,0,none⟩)] w fun e w'=>e= .returned (.tuple #[])/\SlV B Bl (xs++[wd]) w'/\Aa (fun b=>b=Bl\/B<=b) w w':=by
 obtain⟨u,u1,u2⟩:=h3;obtain⟨i0,hi0,hz0,hz1,hz2⟩:=Ja;have hbB:Below w.heap.size w (w.alloc (.cells #[.string nm,.string wd,.slice a n c] 135)):=(Below.refl _ w).alloc (Nat.le_refl _) _;have HV:Hid (Cp w.heap.size [.string nm,.string wd,.slice a n c] (w.alloc (.cells #[.string nm,.string wd,.slice a n c] 135))):=Cp.new w #[.string nm,.string wd,.slice a n c] 135 (by simp);have HU1:Hid (Af Bl u (w.alloc (.cells #[.string nm,.string wd,.slice a n c] 135))):=u1.below hbB;have HU2:Hid ((w.alloc (.cells #[.string nm,.string wd,.slice a n c] 135)).ownsRow B 9 1 u xs.length (sc xs)):=As u2 hbB;have c0:=(h1.below hbB).cell;have c1:=(h2.below hbB).cell;have c2:=HU1.out.cell;have d0:=HV.out.c3.1;have d1:=HV.out.c3.2.1;have l1:=h1.lt;have l2:=h2.lt;have l3:=u1.lt;have HB:Hid _:=hbB
 have HHP:Hid (∀wx,Calls Tryz.prog 36 #[.string wd,.string ss] wx fun e w'=>e= .returned (.bool true)/\w'=wx):=fun wx=>(DN wd ss wx).mono (fun e w' hh=>by
  rw[hpf]at hh;exact hh)
 clear h1 h2 hbB u1 u2 hpf;go_enter Tryz.func194,Tryz.ntmps194;go_wp2_with fail;refine(show Calls _ _ _ _ _ from HHP.out _).mono ?_;rintro _ w9 ⟨rfl,h9⟩;obtain rfl:=h9.symm;clear h9;have hbC:Below (w.alloc (.cells #[.string nm,.string wd,.slice a n c] 135)).heap.size (w.alloc (.cells #[.string nm,.string wd,.slice a n c] 135)) ((w.alloc (.cells #[.string nm,.string wd,.slice a n c] 135)).alloc (.cells #[.string wd] 9)):=(Below.refl _ _).alloc (Nat.le_refl _) _;have HR3:Hid (((w.alloc (.cells #[.string nm,.string wd,.slice a n c] 135)).alloc (.cells #[.string wd] 9)).ownsRow B 9 1 u xs.length (sc xs)):=As HU2.out hbC;have HU3:Hid (Af Bl u ((w.alloc (.cells #[.string nm,.string wd,.slice a n c] 135)).alloc (.cells #[.string wd] 9))):=HU1.out.below hbC
 have HNW:Hid (∀(j:Nat) (u:Value),[Value.string wd][j]? =some u->((w.alloc (.cells #[.string nm,.string wd,.slice a n c] 135)).alloc (.cells #[.string wd] 9)).cell? ((⟨w.heap.size+1,0,none⟩:Addr).add j)=some u):=by
  intro j u hu
  cases j with
  |succ j=>simp at hu
  |zero=>
   simp at hu;subst hu;have:=(Af.new (w.alloc (.cells #[.string nm,.string wd,.slice a n c] 135)) (.string wd) 9).cell;rw[World.size_alloc]at this;rw[AG];exact this
 have HBC:Hid (Below w.heap.size w ((w.alloc (.cells #[.string nm,.string wd,.slice a n c] 135)).alloc (.cells #[.string wd] 9))):=HB.out.trans (hbC.mono HB.out.size);clear hbC
 go_wp2_with (at_builtin;refine wpList_append_lies _ rfl _ _ 22 rfl B 9 i0 (.string ⟨#[]⟩) 1 16 Tryz.underlying22 hi0 hz0 hz1 hz2 rfl (by decide) _ _ _ rfl HR3.out ⟨w.heap.size+1,0,none⟩ 1 1 [.string wd] rfl rfl HNW.out (by intro u hu;simp at hu;subst hu;rfl) (by decide) (by simp only[maxLen];omega) (by omega) (by simp only[World.size_alloc];omega) _ rfl ?_;intro g' cap' w' hO hG hat hlt';have hU9:Af Bl u w':=HU3.out.block (hG.block Bl HU3.out.lt (fun e=>by have:=(World.ownsRow.lt HR3.out Bl e.symm).1;omega));have f9:=hU9.free;have c9:=hU9.cell)
 go_end0;refine⟨rfl,⟨_,hU9.set _,?_⟩,?_⟩
 ·rw[List.length_append,Ru]
  exact Jn hO (by omega)
 ·have e1:Aa (fun b=>b=Bl\/B<=b) w w':=(Ab HBC.out _).trans (AI (S:=fun b=>b=Bl\/B<=b) hG (fun k e=> .inr (World.ownsRow.lt HR3.out k e).1)) (fun _ e=> .inl e)
  exact e1.trans (Aa.set Bl 0 _ _) (fun _ e=> .inl (.inl e))
theorem V3 {Bn Bs Bl n c:Nat} {nm ss wd:ByteArray} {a:Option Addr} (w:World) (h1:Af Bn (.string nm) w) (h2:Af Bs (.string ss) w) (hpf:Lib.hasPrefix wd.data.toList ss.data.toList=false):
  Calls Tryz.prog 194 #[.agg #[.string nm,.string wd,.slice a n c],.pointer (some ⟨Bn,0,none⟩),.pointer (some ⟨Bs,0,none⟩),.pointer (some ⟨Bl,0,none⟩)] w fun e w'=>e= .returned (.tuple #[])/\Below w.heap.size w w':=by
 have hbB:Below w.heap.size w (w.alloc (.cells #[.string nm,.string wd,.slice a n c] 135)):=(Below.refl _ w).alloc (Nat.le_refl _) _;have HV:Hid (Cp w.heap.size [.string nm,.string wd,.slice a n c] (w.alloc (.cells #[.string nm,.string wd,.slice a n c] 135))):=Cp.new w #[.string nm,.string wd,.slice a n c] 135 (by simp);have c0:=(h1.below hbB).cell;have c1:=(h2.below hbB).cell;have d0:=HV.out.c3.1;have d1:=HV.out.c3.2.1;have l1:=h1.lt;have l2:=h2.lt;have HB:Hid _:=hbB
 have HHP:Hid (∀wx,Calls Tryz.prog 36 #[.string wd,.string ss] wx fun e w'=>e= .returned (.bool false)/\w'=wx):=fun wx=>(DN wd ss wx).mono (fun e w' hh=>by
  rw[hpf]at hh;exact hh)
 clear h1 h2 hbB hpf;go_enter Tryz.func194,Tryz.ntmps194;go_wp2_with fail;refine(show Calls _ _ _ _ _ from HHP.out _).mono ?_;rintro _ w9 ⟨rfl,h9⟩;obtain rfl:=h9.symm;clear h9;go_wp2;go_end0;exact⟨rfl,HB.out⟩
theorem Tc {Bn Bs Bl n c:Nat} {nm nc wd:ByteArray} {a:Option Addr} (w:World) (h1:Af Bn (.string nm) w) (hne:¬nc=nm):
  Calls Tryz.prog 194 #[.agg #[.string nc,.string wd,.slice a n c],.pointer (some ⟨Bn,0,none⟩),.pointer (some ⟨Bs,0,none⟩),.pointer (some ⟨Bl,0,none⟩)] w fun e w'=>e= .returned (.tuple #[])/\Below w.heap.size w w':=by
 have hbB:Below w.heap.size w (w.alloc (.cells #[.string nc,.string wd,.slice a n c] 135)):=(Below.refl _ w).alloc (Nat.le_refl _) _;have HV:Hid (Cp w.heap.size [.string nc,.string wd,.slice a n c] (w.alloc (.cells #[.string nc,.string wd,.slice a n c] 135))):=Cp.new w #[.string nc,.string wd,.slice a n c] 135 (by simp);have c0:=(h1.below hbB).cell;have d0:=HV.out.c3.1;have l1:=h1.lt;have HB:Hid _:=hbB;have hq:=F0 hne;clear h1 hbB;go_enter Tryz.func194,Tryz.ntmps194;go_wp2;go_end0;exact⟨rfl,HB.out⟩
section
variable {bf bt bp bd bm N:Nat} {up:Nat->Bool} {V:Pst} {T:Tr} {w:World} {L:List Pc}
theorem WW {nm s:ByteArray} {c:Pc} (h:isB nm s c=true):pfx (BD nm s) 0 c.pr.k=true:=by
 unfold isB at h;rw[Bool.and_eq_true,decide_eq_true_eq]at h;obtain⟨rfl,h2⟩:=h;unfold pfx Lib.hasPrefix at *;obtain⟨t,ht⟩:=List.isPrefixOf_iff_prefix.1 h2;refine List.isPrefixOf_iff_prefix.2 ⟨t++0::Fd c.r,?_⟩;show _=(CM c.n c.w c.r).data.toList;rw[Fq,Ng,<-ht];simp
theorem O7 (nm s:ByteArray) (L:List Pc):Cn nm s (L.filter (fun c=>pfx (BD nm s) 0 c.pr.k))=Cn nm s L:=by
 unfold Cn;rw[List.filter_filter];congr 1;refine List.filter_congr (fun c _=> ?_)
 cases h:isB nm s c
 ·rfl
 ·rw[WW h];rfl
theorem OT (ws:List ByteArray):(Lib.compact (ws.map (fun w=>w.data.toList))).map encStr=sc (FN ws):=by
 unfold FN sc;rw[List.map_map];exact List.map_congr_left fun x _=>rfl
theorem TK (ws:List ByteArray):(ws.map (fun w=>w.data.toList)).map encStr=sc ws:=by
 unfold sc;rw[List.map_map];exact List.map_congr_left fun x _=>rfl
theorem Td (h:Fs bf bt bp bd bm N up V T w) {m:Int} (hm:w.cell? ⟨1,0,none⟩=some (.int .i64 m)) (hL:∀c∈L,c.Ok) (hps:T.all=L.map Pc.pr) (hLl:L.length<=10000) (nm ss:ByteArray) (hnm:nm.size<=100) (hss:ss.size<=100):
  Calls Tryz.prog 148 #[.pointer (some ⟨bf,0,none⟩),.string nm,.string ss] w fun e w'=>∃v,e= .returned (.tuple #[v,.nilIface])/\w'.ownsRow w.heap.size 9 1 v (FN (Cn nm ss L)).length (sc (FN (Cn nm ss L)))/\Below w.heap.size w w':=by
 obtain⟨w0,hw0⟩:∃w0,((w.alloc (.cells #[.string nm] 9)).alloc (.cells #[.string ss] 9)).alloc (.cells #[.slice none 0 0] 22)=w0:=⟨_,rfl⟩;have hbB:Below w.heap.size w w0:=by rw[<-hw0];exact(((Below.refl _ w).alloc (Nat.le_refl _) _).alloc (by simp) _).alloc (by simp only[World.size_alloc];omega) _
 have hsz:w0.heap.size=w.heap.size+3:=by rw[<-hw0];simp
 have o1:Af w.heap.size (.string nm) w0:=by
  rw[<-hw0];exact((Af.new w (.string nm) 9).below ((Below.refl _ _).alloc (Nat.le_refl _) _)).below ((Below.refl _ _).alloc (Nat.le_refl _) _)
 have o2:Af (w.heap.size+1) (.string ss) w0:=by
  rw[<-hw0];have:=Af.new (w.alloc (.cells #[.string nm] 9)) (.string ss) 9;rw[World.size_alloc]at this;exact this.below ((Below.refl _ _).alloc (Nat.le_refl _) _)
 have o3:Af (w.heap.size+2) (.slice none 0 0) w0:=by
  rw[<-hw0];have:=Af.new ((w.alloc (.cells #[.string nm] 9)).alloc (.cells #[.string ss] 9)) (.slice none 0 0) 22;rw[World.size_alloc,World.size_alloc]at this;exact this
 have hmf:∀(fn:Fn) (first cap:Array Value) (w:World),(Instr.makeFunc fn first cap).run Tryz.prog w= .ok (.func fn first cap) w:=fun _ _ _ _=>rfl;have hm2:1<w.heap.size:=World.block_lt_of_cell? _ _ hm
 have hwk:BJ (pfx (BD nm ss)) (BD nm ss) 0 T.all=(L.filter (fun c=>pfx (BD nm ss) 0 c.pr.k)).map Pc.pr:=by
  rw[MW _ T.all 0 h.sorted,hps,List.filter_map];rfl
 have hpf:=O7 nm ss L;have hLf:∀c∈L.filter (fun c=>pfx (BD nm ss) 0 c.pr.k),c.Ok:=fun c hc=>hL c ((List.mem_filter.1 hc).1);have hLfl:(L.filter (fun c=>pfx (BD nm ss) 0 c.pr.k)).length<=10000:=Nat.le_trans (List.length_filter_le _ _) hLl;generalize L.filter (fun c=>pfx (BD nm ss) 0 c.pr.k)=L' at *
 have HLK:Hid (Calls Tryz.prog 55 #[.pointer (some ⟨bf,0,none⟩),.string (BD nm ss),.func (.func 194) #[] #[.pointer (some ⟨w.heap.size,0,none⟩),.pointer (some ⟨w.heap.size+1,0,none⟩),.pointer (some ⟨w.heap.size+2,0,none⟩)]] w0 fun e w'=>e= .returned .nilIface/\(∃B,w0.heap.size<=B/\(Af w.heap.size (.string nm) w'/\Af (w.heap.size+1) (.string ss) w'/\SlV B (w.heap.size+2) (Cn nm ss (L'.take L'.length)) w'))/\Aa (fun b=>b=w.heap.size+2) w0 w'):=by
  refine Kf (I:=fun B k wx=>Af w.heap.size (.string nm) wx/\Af (w.heap.size+1) (.string ss) wx/\SlV B (w.heap.size+2) (Cn nm ss (L'.take k)) wx) (h.below hbB) (AP hbB hm) (BD nm ss) hLf hwk hLfl (fun b e=> ?_) (enters_of Tryz.func194 (by kernel_rfl) rfl) (fun B wx h1 h2 h3=>⟨o1.below h3,o2.below h3,_,o3.below h3,World.ownsRow_nil _ _ _ _⟩) (fun B k hk v wr wx h1 h2 h3 h4 h5=> ?_)
  ·subst e;exact⟨by omega,by omega⟩
  ·obtain⟨j1,j2,v3,j3,j4⟩:=h3
   have hsb:=h4.size;obtain⟨a5,c5,rfl⟩:=Bz h5;have hlk:=O6 nm ss (L'.take k);rw[List.length_take]at hlk
   by_cases hw:isB nm ss L'[k]=true
   ·have hw2:=hw
    unfold isB at hw2;rw[Bool.and_eq_true,decide_eq_true_eq]at hw2;have:=Tb (B:=B) (Bl:=w.heap.size+2) (n:=L'[k].l.length) (c:=c5) (a:=a5) (xs:=Cn nm ss (L'.take k)) wx (j1.below h4) (j2.below h4) hw2.2 ⟨v3,j3.below h4,As j4 h4⟩ (by omega) (by omega) (by omega);rw[hw2.1];refine this.mono ?_;rintro e w' ⟨rfl,g1,g2⟩;refine⟨rfl,⟨(j1.below h4).only g2 (by omega),(j2.below h4).only g2 (by omega),?_⟩,g2.mono (fun _ e=>e)⟩;rw[LJ nm ss hk,if_pos hw];exact g1
   ·refine(show Calls _ _ _ _ (fun e w'=>e= .returned (.tuple #[])/\Below wx.heap.size wx w')from by
     by_cases hn:L'[k].n=nm
     ·rw[hn]
      refine V3 (Bl:=w.heap.size+2) wx (j1.below h4) (j2.below h4) ?_
      cases hq:Lib.hasPrefix L'[k].w.data.toList ss.data.toList
      ·rfl
      ·exact absurd (by unfold isB;rw[hq,hn,decide_eq_true rfl];rfl) hw
     ·exact Tc (Bl:=w.heap.size+2) wx (j1.below h4) hn).mono ?_
    rintro e w' ⟨rfl,g1⟩;refine⟨rfl,⟨(j1.below h4).below g1,(j2.below h4).below g1,?_⟩,Ab g1 _⟩;rw[LJ nm ss hk,if_neg hw,List.append_nil];exact⟨v3,(j3.below h4).below g1,As (As j4 h4) g1⟩
 have HB:Hid _:=hbB;have HSZ:Hid _:=hsz;rw[List.take_length,hpf]at HLK;have c1:=o1.cell;have c2:=o2.cell;have HSA:Hid _:=GU nm ss (by omega) (by omega);clear hbB o1 o2 o3 hm hL hps hwk h hsz hpf hLf hLfl;go_enter Tryz.func148,Tryz.ntmps148;go_wp2_with fail;refine(show Calls _ _ _ _ _ from HSA.out w0).mono ?_;rintro _ w9 ⟨rfl,h9⟩;obtain rfl:=h9.symm;clear h9;go_wp2_with fail;refine(show Calls _ _ _ _ _ from HLK.out).mono ?_;rintro _ w2 ⟨rfl,⟨B,hB0,_,_,v,hO,hR⟩,ho⟩;have HB2:Hid (Below w.heap.size w w2):=Aa.below HB.out ho HB.out.size (fun b e=>by omega)
 have HCP:Hid (Calls Tryz.prog 195 #[v] w2 fun e w'=>∃v',e= .returned v'/\w'.ownsRow w.heap.size 9 1 v' (FN (Cn nm ss L)).length (sc (FN (Cn nm ss L)))/\Below w.heap.size w w'):=by
  have hr2:w2.ownsRow w.heap.size 9 1 v ((Cn nm ss L).map (fun w=>w.data.toList)).length (((Cn nm ss L).map (fun w=>w.data.toList)).map encStr):=by
   rw[TK,List.length_map];exact Du hR (by have:=HSZ.out;omega)
  refine(Ov hr2).mono ?_;rintro e w' ⟨v',rfl,g1,g2⟩;refine⟨v',rfl,?_,Aa.below HB2.out g2 HB2.out.size (fun _ e=>e)⟩;rw[OT]at g1;unfold FN at g1 ⊢;rw[List.length_map];exact g1
 have c0:w2.cell? ⟨w.heap.size+1+1,0,none⟩=some v:=hO.cell;clear hO ho hR;go_wp2_with fail;refine(show Calls _ _ _ _ _ from HCP.out).mono ?_;rintro _ w3 ⟨v',rfl,g1,g2⟩;have HR:Hid _:=g1;have HB3:Hid _:=g2;clear g1 g2;go_wp2;go_ret2;exact⟨_,rfl,HR.out,HB3.out⟩
end
theorem M3:Keyed Tryz.prog 9:=string_keyed Tryz.underlying9
def kl (k:ByteArray):Lit:= .string k.data.toList
theorem XS {a b:ByteArray} (h:kl a=kl b):a=b:=by
 unfold kl at h;injection h with h;exact Dy h
theorem QD {a b:ByteArray} (h:a≠b):kl a≠kl b:=fun e=>h (XS e)
theorem UJ (k:ByteArray):WideAt.IsKeyLit (kl k):=trivial
theorem QC {k:ByteArray} (h:k.size<=1000):keyOf Tryz.prog 9 (.string k)=some (kl k):=WideMaps.keyOf_string_mk Tryz.underlying9 (Nat.le_trans h (by decide))
def Kr (v:Value):Option (DataW Value×List MemPlace):=some (.held v,[])
theorem Sw {v:Value} {d:DataW Value} {ps:List MemPlace} (h:Kr v=some (d,ps)):d= .held v:=by
 unfold Kr at h;exact(congrArg Prod.fst (Option.some.inj h)).symm
structure LfD (D:DataW Value) (F:ByteArray->Option Value):Prop where
 isMap:IsMap D
 has:∀k,Maps.has D (kl k)=(F k).isSome
 elem:∀k v,F k=some v->∀z,D.atKey (kl k) z= .held v
def LfB (m n:Nat) (F:ByteArray->Option Value) (w:World):Prop:=∃D:DataW Value,w.ownsMap Tryz.prog 9 Kr m n D/\LfD D F
def setF (F:ByteArray->Option Value) (k:ByteArray) (o:Option Value):ByteArray->Option Value:=fun j=>if j=k then o else F j
theorem BS (F:ByteArray->Option Value) (k:ByteArray) (o:Option Value):setF F k o k=o:=by simp[setF]
theorem Bh (F:ByteArray->Option Value) {k j:ByteArray} (o:Option Value) (h:j≠k):setF F k o j=F j:=by simp[setF,h]
theorem LfD.put {D:DataW Value} {F:ByteArray->Option Value} (h:LfD D F) (k:ByteArray) (v:Value):LfD (D.put (kl k) (.held v)) (setF F k (some v)):=by
 refine⟨h.isMap.put _ _,fun j=> ?_,fun j u hu z=> ?_⟩
 ·by_cases e:j=k
  ·subst e
   rw[has_put_same h.isMap (UJ _),BS];rfl
  ·rw[has_put_other (QD e),h.has j,Bh _ _ e]
 ·by_cases e:j=k
  ·subst e
   rw[BS]at hu;obtain rfl:=Option.some.inj hu;exact atKey_put_same h.isMap (UJ _) _ z
  ·rw[Bh _ _ e]at hu
   rw[atKey_put_other (QD e)];exact h.elem j u hu z
theorem LfD.del {D:DataW Value} {F:ByteArray->Option Value} (h:LfD D F) (k:ByteArray):LfD (D.del (kl k)) (setF F k none):=by
 refine⟨h.isMap.del _,fun j=> ?_,fun j u hu z=> ?_⟩
 ·by_cases e:j=k
  ·subst e
   rw[has_del_same,BS];rfl
  ·rw[has_del_other (QD e),h.has j,Bh _ _ e]
 ·by_cases e:j=k
  ·subst e
   rw[BS]at hu;cases hu
  ·rw[Bh _ _ e]at hu
   rw[atKey_del_other (QD e)];exact h.elem j u hu z
section
variable {m n:Nat} {F:ByteArray->Option Value} {w w':World}
theorem LfB.lt (h:LfB m n F w):m<w.heap.size:=by obtain⟨D,hD,_⟩:=h;exact hD.lt
theorem LfB.block (h:LfB m n F w) (hb:w'.heap[m]? =w.heap[m]?):LfB m n F w':=by
 obtain⟨D,⟨es,clock,hm,F,hs,hD⟩,hM⟩:=h;exact⟨D,⟨es,clock,hb.trans hm,F,hs,hD⟩,hM⟩
theorem LfB.only {S:Nat->Prop} (h:LfB m n F w) (ho:Aa S w w') (hs:¬S m):LfB m n F w':=h.block (ho.block m h.lt hs)
theorem LfB.below (h:LfB m n F w) (hb:Below w.heap.size w w'):LfB m n F w':=h.block (hb.block m h.lt)
theorem LfB.new (w:World):LfB w.heap.size 0 (fun _=>none) (w.alloc (.map #[] 0)):=
 ⟨.map [],World.ownsMap_made _ _ _ _,⟨⟨[],rfl⟩,fun k=>by simp[has_eq],fun k v h=>(by cases h)⟩⟩
end
theorem To (w:World):(zeroValue 91).run Tryz.prog w= .ok (.slice none 0 0) w:=by kernel_rfl
section
variable {ops:Array Oper} {rest:List Oper} {o:Oper} {a:Act} {Q:Exit->Act->World->Prop} {m n:Nat} {F:ByteArray->Option Value}
theorem LfD.look {D:DataW Value} (hM:LfD D F) {k:ByteArray} {v:Value} {ps:List MemPlace} (hv:Kr v=some (D.atKey (kl k) (.held (.slice none 0 0)),ps)):v=(F k).getD (.slice none 0 0):=by
 have h1:=Sw hv
 cases e:F k with
 |none=>
  have h2:=hM.has k;rw[e]at h2;rw[atKey_of_not_has h2]at h1;injection h1 with h3;exact h3.symm
 |some u=>
  rw[hM.elem k u e]at h1;injection h1 with h3;exact h3.symm
theorem Ww (w:World) (hg:o.guard=none) (mo x:Operand) (hop:o.op=Op.lookup 187 mo x false) (hS:LfB m n F w) (k:ByteArray) (hk:k.size<=1000) (hm:a.eval mo= .map (some m)) (hx:a.eval x= .string k)
  (hK:wpList Tryz.prog ops Q rest (a.put o.dst ((F k).getD (.slice none 0 0))) w):wpList Tryz.prog ops Q (o::rest) a w:=by
 obtain⟨D,hD,hM⟩:=hS;refine wpList_plain hg fun K' hK'=> ?_;obtain⟨v,ps,hrun,hv⟩:=hD.lookup M3 Tryz.underlying187 (To w) (zd:= .held (.slice none 0 0)) (zp:=[]) rfl (QC hk);obtain rfl:=hM.look hv;unfold Oper.wp;simp[execOp,hop,hm,hx,hrun,Result.andThen];exact hK' _ _ hK
theorem NV (w:World) (hg:o.guard=none) (mo x:Operand) (hop:o.op=Op.lookup 187 mo x true) (hS:LfB m n F w) (k:ByteArray) (hk:k.size<=1000) (hm:a.eval mo= .map (some m)) (hx:a.eval x= .string k)
  (hK:wpList Tryz.prog ops Q rest (a.put o.dst (.tuple #[(F k).getD (.slice none 0 0),.bool (F k).isSome])) w):wpList Tryz.prog ops Q (o::rest) a w:=by
 obtain⟨D,hD,hM⟩:=hS;refine wpList_lookup_own_ok w hg mo x 187 hop 9 91 M3 Tryz.underlying187 Kr (To w) (.held (.slice none 0 0)) [] rfl m n D hm hD _ _ hx (QC hk) ?_;intro v ps hv;obtain rfl:=hM.look hv;rw[hM.has];exact hK
theorem XD (w:World) (hg:o.guard=none) (mo x v:Operand) (hop:o.op=Op.mapUpdate 187 mo x v) (hS:LfB m n F w) (hn:n<1000000) (k:ByteArray) (hk:k.size<=1000) (u:Value) (hm:a.eval mo= .map (some m)) (hx:a.eval x= .string k) (hv:a.eval v=u)
  (hK:∀w',LfB m (n+1) (setF F k (some u)) w'->Aa (fun b=>b=m) w w'->wpList Tryz.prog ops Q rest (a.put o.dst undef) w'):wpList Tryz.prog ops Q (o::rest) a w:=by
 obtain⟨D,hD,hM⟩:=hS;refine wpList_mapUpdate_own w hg mo x v 187 hop 9 91 M3 Tryz.underlying187 Kr m n D hm hD (Nat.lt_trans hn (by decide)) _ _ _ hx hv (QC hk) (.held u) [] rfl ?_;intro w' h1 h2;exact hK w' ⟨_,h1,hM.put k u⟩ (Aa.of_grown h2 rfl)
theorem Ye (w:World) (hg:o.guard=none) (mo x:Operand) (hop:o.op=Op.call {callee:=Callee.builtin Builtin.delete,args:= #[mo,x],argTypes:= #[187,9]}) (hS:LfB m n F w) (k:ByteArray) (hk:k.size<=1000) (hm:a.eval mo= .map (some m)) (hx:a.eval x= .string k)
  (hK:∀w',LfB m n (setF F k none) w'->Aa (fun b=>b=m) w w'->wpList Tryz.prog ops Q rest (a.put o.dst (.tuple #[])) w'):wpList Tryz.prog ops Q (o::rest) a w:=by
 obtain⟨D,hD,hM⟩:=hS;refine wpList_delete_own w hg mo x 187 9 hop 91 M3 Tryz.underlying187 Kr m n D hm hD _ _ hx (QC hk) ?_;intro w' h1 h2;exact hK w' ⟨_,h1,hM.del k⟩ (Aa.of_grown h2.grown rfl)
end
structure LfR (B:Nat) (A:ByteArray->List Pl) (F:ByteArray->Option Value) (w:World):Prop where
 none:∀k,F k=none->A k=[]
 row:∀k v,F k=some v->w.ownsRow B 81 2 v (A k).length (plc (A k))/\0<(A k).length
 ap:∀k v j u,F k=some v->F j=some u->k≠j->∀b,v.ownBlock=some b->u.ownBlock≠some b
section
variable {B:Nat} {A:ByteArray->List Pl} {F:ByteArray->Option Value} {w w':World}
theorem LfR.only {S:Nat->Prop} (h:LfR B A F w) (ho:Aa S w w') (hS:∀b,S b->b<B):LfR B A F w':=
 ⟨h.none,fun k v hv=>⟨Be (h.row k v hv).1 ho hS,(h.row k v hv).2⟩,h.ap⟩
theorem LfR.below (h:LfR B A F w) (hb:Below w.heap.size w w'):LfR B A F w':=h.only (Ab hb (fun _=>False)) (fun _ e=>e.elim)
theorem LfR.del (h:LfR B A F w) (k:ByteArray) {A':ByteArray->List Pl} (h0:A' k=[]) (h1:∀j,j≠k->A' j=A j):LfR B A' (setF F k Option.none) w:=by
 refine⟨fun j hj=> ?_,fun j v hv=> ?_,fun j v i u hv hu hne=> ?_⟩
 ·by_cases e:j=k
  ·rw[e];exact h0
  ·rw[Bh _ _ e]at hj
   rw[h1 j e];exact h.none j hj
 ·by_cases e:j=k
  ·subst e;rw[BS]at hv;cases hv
  ·rw[Bh _ _ e]at hv
   rw[h1 j e];exact h.row j v hv
 ·by_cases e:j=k
  ·subst e;rw[BS]at hv;cases hv
  ·by_cases e2:i=k
   ·subst e2;rw[BS]at hu;cases hu
   ·rw[Bh _ _ e]at hv
    rw[Bh _ _ e2]at hu;exact h.ap j v i u hv hu hne
theorem LfR.at (h:LfR B A F w) (k:ByteArray):w.ownsRow B 81 2 ((F k).getD (.slice Option.none 0 0)) (A k).length (plc (A k)):=by
 cases e:F k with
 |none=>rw[h.none k e];exact World.ownsRow_nil _ _ _ _
 |some v=>exact(h.row k v e).1
theorem LfR.put (h:LfR B A F w) (k:ByteArray) {A':ByteArray->List Pl} {u:Value} (hG:w.grownBy w' ((F k).getD (.slice Option.none 0 0)).ownBlock) (hu:w'.ownsRow B 81 2 u (A' k).length (plc (A' k))) (hp:0<(A' k).length) (h1:∀j,j≠k->A' j=A j)
  (hat:∀b,u.ownBlock=some b->((F k).getD (.slice Option.none 0 0)).ownBlock=some b\/w.heap.size<=b):LfR B A' (setF F k (some u)) w':=by
 have hap:∀j v,j≠k->F j=some v->∀b,v.ownBlock=some b->((F k).getD (.slice Option.none 0 0)).ownBlock≠some b:=by
  intro j v hj hv b hb
  cases e:F k with
  |none=>intro hx;cases hx
  |some v0=>exact h.ap j v k v0 hv e hj b hb
 have hap2:∀j v,j≠k->F j=some v->∀b,v.ownBlock=some b->u.ownBlock≠some b:=by
  intro j v hj hv b hb hub;rcases hat b hub with e|e
  ·exact hap j v hj hv b hb e
  ·have:=(World.ownsRow.lt (h.row j v hv).1 b hb).2
   omega
 refine⟨fun j hj=> ?_,fun j v hv=> ?_,fun j v i u' hv hu' hne=> ?_⟩
 ·by_cases e:j=k
  ·subst e;rw[BS]at hj;cases hj
  ·rw[Bh _ _ e]at hj
   rw[h1 j e];exact h.none j hj
 ·by_cases e:j=k
  ·subst e;rw[BS]at hv
   obtain rfl:=Option.some.inj hv;exact⟨hu,hp⟩
  ·rw[Bh _ _ e]at hv
   rw[h1 j e];refine⟨?_,(h.row j v hv).2⟩;exact I3 (S:=fun b=>((F k).getD (.slice Option.none 0 0)).ownBlock=some b) (h.row j v hv).1 (AI hG (fun b e=>e)) (fun b hb=>hap j v e hv b hb)
 ·by_cases e:j=k
  ·subst e
   rw[BS]at hv;obtain rfl:=Option.some.inj hv;have e2:i≠j:=fun e=>hne e.symm;rw[Bh _ _ e2]at hu';exact fun b hb hb2=>hap2 i u' e2 hu' b hb2 hb
  ·rw[Bh _ _ e]at hv
   by_cases e2:i=k
   ·subst e2
    rw[BS]at hu';obtain rfl:=Option.some.inj hu';exact fun b hb=>hap2 j v e hv b hb
   ·rw[Bh _ _ e2]at hu'
    exact h.ap j v i u' hv hu' hne
end
end
end Go.Proofs.YtgfldnaahojnlaaGreatDoor
