/- MatchFinds: part 16. -/
import Derived.Test.YtgfldnaahojnlaaGreatDoorF15
import Derived.Shelf.Strings.Prefix
import Derived.Deep.LoopGhost
import Derived.Lib.Bytealg
import Derived.Lib.IndexMore
import Derived.Shelf.Strings.Builder1
import Derived.Shelf.LaysM
import Derived.Shelf.Strings.Search1
import Derived.Shelf.Strings.Search2
import Derived.Shelf.Strings.Search3
import Derived.Shelf.Strings.Cut
import Derived.Ground.Names2Prog
import Derived.Shelf.Slices.CompactS
import Derived.Test.YtgfldnaahojnlaaGreatDoorProg
import Derived.BigQuiet
import Derived.Deep.DeepCutAuto
import Derived.Laws.AppendOwnNone
import Derived.Laws.IdiomStrings
set_option maxRecDepth 100000
set_option maxHeartbeats 4000000
namespace Go.Proofs.YtgfldnaahojnlaaGreatDoor
section
open Go.RowKit Go.Maps
theorem PY (x:Pr):x.bytes=Aj [x]:=by
 unfold Pr.bytes Aj Dg Dg;rw[List.append_nil]
def YN (bp bd bm N r:Nat) (s:St) (up:Nat->Bool) (cm:Int) (V:Pst) (T:Tr) (key:ByteArray) (nw:List Pr) (w:World) (e:Ending) (w':World):Prop:=
 ∃A mid C,YQ T key A mid C/\FM bp bd bm N r s up cm V T A nw C w e w'
theorem CX.six {B:Nat} {a b c d e f:Value} {w:World} (h:CX B [a,b,c,d,e,f] w):w.cell? ⟨B,0,none⟩=some a/\w.cell? ⟨B,1,none⟩=some b/\w.cell? ⟨B,2,none⟩=some c/\w.cell? ⟨B,3,none⟩=some d/\w.cell? ⟨B,4,none⟩=some e/\w.cell? ⟨B,5,none⟩=some f:=
 ⟨h.cell 0 (by simp),h.cell 1 (by simp),h.cell 2 (by simp),h.cell 3 (by simp),h.cell 4 (by simp),h.cell 5 (by simp)⟩
section
variable {bt bp bd bm N r:Nat} {s:St} {up:Nat->Bool} {cm:Int} {V:Pst} {w:World}
theorem FM.from {T:Tr} {A nw C:List Pr} {w0 w:World} {e:Ending} {w':World} (h:FM bp bd bm N r s up cm V T A nw C w e w') (hb:Below w0.heap.size w0 w):FM bp bd bm N r s up cm V T A nw C w0 e w':=by
 rcases h with⟨h1,h2,h3⟩|⟨h1,h2,V',N',T',h3,h4,h5,h6,h7⟩
 ·exact .inl ⟨h1,h2,hb.trans (h3.mono hb.size)⟩
 ·exact .inr ⟨h1,h2,V',N',T',h3,h4,h5,h6,(Ab hb _).trans h7 (fun _ e=> .inl e)⟩
theorem FM.block {T:Tr} {A nw C:List Pr} {w:World} {e:Ending} {w':World} (h:FM bp bd bm N r s up cm V T A nw C w e w') {B:Nat} (hB:B<w.heap.size) (h1:B≠bp) (h2:B≠bm):w'.heap[B]? =w.heap[B]? :=by
 rcases h with⟨_,_,h3⟩|⟨_,_,V',N',T',_,_,_,_,h7⟩
 ·exact h3.block B hB
 ·exact h7.block B hB (fun e=>by rcases e with e|e;exact h1 e;exact h2 e)
theorem FM.ret {T:Tr} {A nw C:List Pr} {w:World} {e:Ending} {w':World} (h:FM bp bd bm N r s up cm V T A nw C w e w'):∃u,e= .returned u:=by
 rcases h with⟨_,h2,_⟩|⟨_,h2,_⟩
 ·exact⟨_,h2⟩
 ·exact⟨_,h2⟩
theorem Gq.inLs {T:Tr} {key txt:ByteArray} {l a b:Nat} (h:Gq T key l txt a b):l<T.Ls.length\/(T.Ls=[]/\l=0):=by
 rcases h with⟨h1,h2,_⟩|h
 ·exact .inr ⟨h1,h2⟩
 ·exact .inl h.lt
set_option maxHeartbeats 1000000
theorem Wb (hT:Tt bt bp r w) (h:Tw bp bd bm N s up cm V w) (hne:bt≠bp/\bt≠bm) {T:Tr} (hA:D4 V r T) (x:Pr) (hx:x.Ok) (hcnt:AB V.used 2000+30<1999) (hN:N+60<1000000):
  Calls Tryz.prog 60 #[.pointer (some ⟨bt,0,none⟩),.string x.k,.string x.i] w fun e w'=>YN bp bd bm N r s up cm V T x.k [x] w e w':=by
 obtain⟨key,item⟩:=x;obtain⟨hx1,hx2,hx3⟩:=hx;simp only at hx1 hx2 hx3 ⊢;have HA:Hid _:=hA;have HT:Hid _:=hT;have HW:Hid _:=h;have hlt:=h.lt;have hltt:=hT.lt;have i1:¬(60:Int)<(key.size:Int):=by omega
 have i2:¬(100:Int)<(item.size:Int):=by omega
 have i3:¬key.toList=[]:=fun e=>by
  rw[ByteArray.toList_eq]at e;have:=congrArg List.length e;rw[Array.length_toList]at this;exact absurd this (by show key.size≠0;omega)
 have i4:key.toList.isEmpty=false:=by
  cases e:key.toList with
  |nil=>exact absurd e i3
  |cons a b=>rfl
 clear hA hT h;go_enter Tryz.func60,Tryz.ntmps60;go_wp2_with fail;refine(JB HT.out HW.out HA.out key).mono ?_;rintro _ w1 ⟨v,l,txt,a,b,rfl,hs,hv1,hb1⟩;obtain⟨a9,cap9,hv9,_⟩:=hv1.is;generalize hn9:(Ay T.ks).length=n9 at hv9;subst hv9;have HS:Hid (Gq T key l txt a b):=hs;have HV1:Hid (An w.heap.size (.slice a9 n9 cap9) (Ay T.ks) w1):=hv1;have HB1:Hid (Below w.heap.size w w1):=hb1;obtain⟨W2,hW2⟩:∃W2,w1.alloc (.cells #[.int .i64 (T.top:Nat),.slice a9 n9 cap9,.int .i64 (l:Nat),.string txt,.int .i64 (a:Nat),.int .i64 (b:Nat)] 170)=W2:=⟨_,rfl⟩;have hb2:Below w1.heap.size w1 W2:=by rw[<-hW2];exact(Below.refl _ w1).alloc (Nat.le_refl _) _
 have HV6:Hid (CX w1.heap.size [.int .i64 (T.top:Nat),.slice a9 n9 cap9,.int .i64 (l:Nat),.string txt,.int .i64 (a:Nat),.int .i64 (b:Nat)] W2.drew):=by rw[<-hW2];exact(CX.new6 w1 _ _ _ _ _ _ 170).below (Below.refl _ _).drew
 have HB2:Hid (Below w.heap.size w W2.drew):=(hb1.trans (hb2.mono hb1.size)).drew;have HBX:Hid (Below w1.heap.size w1 W2.drew):=hb2.drew;clear hs hv1 hb1 hb2 hn9 i3 i4;go_wp2_with fail
 go_region_held3 (fun wx=>wx.cell? ⟨w1.heap.size,0,none⟩=some (.int .i64 (T.top:Nat))/\wx.cell? ⟨w1.heap.size,1,none⟩=some (.slice a9 n9 cap9)/\wx.cell? ⟨w1.heap.size,2,none⟩=some (.int .i64 (l:Nat))/\wx.cell? ⟨w1.heap.size,3,none⟩=some (.string txt)/\wx.cell? ⟨w1.heap.size,4,none⟩=some (.int .i64 (a:Nat))/\wx.cell? ⟨w1.heap.size,5,none⟩=some (.int .i64 (b:Nat))) (first|exact HV6.out.six|exact HV63.out.six|exact HV64.out.six) (first|(go_at_call 96;refine(KL ⟨key,item⟩ ⟨hx1,hx2,hx3⟩ _).mono ?_;rintro _ w3 ⟨rfl,hb3⟩;rw[PY];have HB3:Hid (Below W2.drew.heap.size W2.drew w3):=hb3;have HV63:Hid (CX w1.heap.size [.int .i64 (T.top:Nat),.slice a9 n9 cap9,.int .i64 (l:Nat),.string txt,.int .i64 (a:Nat),.int .i64 (b:Nat)] w3):=HV6.out.below hb3;clear hb3)|(go_at_call 95;obtain⟨A,mid,C,hsa⟩:=Gq.all HS.out HA.out.ok;have HBW:Hid (Below w.heap.size w w3):=HB2.out.trans (HB3.out.mono HB2.out.size);have HB13:Hid (Below w1.heap.size w1 w3):=HBX.out.trans (HB3.out.mono HBX.out.size);refine(PT (HT.out.below HBW.out) (HW.out.below HBW.out) hne HA.out (HV1.out.below HB13.out) ⟨by omega,by omega⟩ hsa (Gq.inLs HS.out) (.inr ⟨_,rfl,rfl⟩) (fun y hy=>by obtain rfl:=List.mem_singleton.1 hy;exact⟨hx1,hx2,hx3⟩) hcnt hN).mono ?_;rintro e4 w4 hc4;have HC4:Hid (FM bp bd bm N r s up cm V T A [⟨key,item⟩] C w e4 w4):=hc4.from HBW.out;have HV64:Hid (CX w1.heap.size [.int .i64 (T.top:Nat),.slice a9 n9 cap9,.int .i64 (l:Nat),.string txt,.int .i64 (a:Nat),.int .i64 (b:Nat)] w4):=HV63.out.block (hc4.block (by have:=HV63.out.lt;omega) (by have:=HB1.out.size;omega) (by have:=HB1.out.size;omega));have HCR:Hid _:=hsa.chg;obtain⟨u4,he4⟩:=hc4.ret;subst he4;clear hc4 hsa))
 go_wp2;go_ret;exact⟨A,mid,C,HCR.out,HC4.out⟩
end
theorem X6:(sizeOf 182).run Tryz.prog=fun w=> .ok 2 w:=by funext w;simp[Tryz.sizeOf182]
theorem Yc:Tryz.prog.elem 178=182:=by kernel_rfl
theorem Sr {t e:TypeId} (ht:Tryz.prog.underlying t=some (.slice e)) (he:Tryz.prog.elem t=e) (hs:(sizeOf e).run Tryz.prog=fun w=> .ok 2 w) (g n cap i:Nat) (hi:i<n) (wx:World):(Instr.indexAt t (.slice (some ⟨g,0,none⟩) n cap) (.int .i64 (i:Nat))).run Tryz.prog wx= .ok (.pointer (some ⟨g,2 * i,none⟩)) wx:=by
 subst he;rw[run_indexAt_slice (h:=ht),if_pos ⟨by omega,by omega⟩,hs];simp[Result.andThen,AG,Nat.mul_comm]
theorem Jj.at {B:Nat} {v:Value} {ps:List Pr} {w:World} (h:Jj B v ps w) {i:Nat} (hi:i<ps.length):∃g,B<=g/\w.cell? ⟨g,2 * i,none⟩=some (.string ps[i].k)/\w.cell? ⟨g,2 * i+1,none⟩=some (.string ps[i].i)/\
  ∀wx,(Instr.indexAt 178 v (.int .i64 (i:Nat))).run Tryz.prog wx= .ok (.pointer (some ⟨g,2 * i,none⟩)) wx:=by
 obtain⟨g,cap,rfl,h1,h2⟩:=World.ownsRow.form h (by omega)
 have hfl:∀(l:List Pr) (i:Nat) (hi:i<l.length),(l.flatMap Ue)[2 * i]? =some (.string l[i].k)/\(l.flatMap Ue)[2 * i+1]? =some (.string l[i].i):=by
  intro l
  induction l with
  |nil=>intro i hi;simp at hi
  |cons x r ih=>
   intro i hi
   cases i with
   |zero=>exact⟨rfl,rfl⟩
   |succ i=>
    have:=ih i (by simpa using hi);rw[List.flatMap_cons];show([_,_]++_)[2 * (i+1)]? =_/\([_,_]++_)[2 * (i+1)+1]? =_;rw[show 2 * (i+1)=(2 * i)+1+1 by omega];exact this
 have h3:=hfl ps i hi;refine⟨g,h1,?_,?_,fun wx=> ?_⟩
 ·have:=h.cells (g:=g) rfl (2 * i) _ h3.1
  rwa [AG,Nat.zero_add]at this
 ·have:=h.cells (g:=g) rfl (2 * i+1) _ h3.2
  rwa [AG,Nat.zero_add]at this
 ·exact Sr Tryz.underlying178 Yc X6 g ps.length cap i hi wx
section
variable {bt bp bd bm N r:Nat} {s:St} {up:Nat->Bool} {cm:Int} {V:Pst} {w:World}
end
section
variable {V V' V'':Pst} {r:Nat} {T T' T'':Tr}
theorem D4.used_pg (h:D4 V r T):∀k∈T.pgL,V.used k=true/\0<k/\k<2000:=fun k hk=>by
 unfold Tr.pgL at hk;rcases List.mem_append.1 hk with hk|hk
 ·by_cases h0:T.top=0
  ·rw[if_pos h0]at hk;simp at hk
  ·rw[if_neg h0]at hk
   obtain rfl:=List.mem_singleton.1 hk;have:=h.ltop h0;exact⟨this.2.1,by omega,this.1⟩
 ·have:=h.low k hk
  exact⟨this.2.2,this.1,this.2.1⟩
theorem D4.pg_nodup (h:D4 V r T):T.pgL.Nodup:=by
 unfold Tr.pgL
 by_cases h0:T.top=0
 ·rw[if_pos h0];exact h.nodup
 ·rw[if_neg h0,List.singleton_append,List.nodup_cons]
  exact⟨(h.ltop h0).2.2.2,h.nodup⟩
theorem D4.pg_len (h:D4 V r T):T.pgL.length=T.pages:=by
 unfold Tr.pgL Tr.pages;rw[List.length_append,h.len]
 by_cases h0:T.top=0
 ·rw[if_pos h0,if_pos (h.top0.1 h0)];simp
 ·rw[if_neg h0,if_neg (fun e=>h0 (h.top0.2 e))]
  show 1+_=_;omega
theorem D4.pages_le (h:D4 V r T):T.pages<=60:=by
 have:=h.ok.len;unfold Tr.pages;split<;>omega
end
def Pg.pst (p:Pg) (pg:Nat->ByteArray):Pst:=⟨p.used,p.text pg,p.rp,p.rn⟩
theorem Ej.self (p:Pg) (pg:Nat->ByteArray):Ej p pg (p.pst pg):=⟨rfl,fun _ _ _=>rfl,fun _ _=>rfl,fun _ _=>rfl⟩
def sd0:St:=⟨fun _=>D5,false,0,0⟩
theorem Jx (k:Nat):D5.data.toList.getD k 0=0:=by
 have h:D5.data.toList=List.replicate 1024 0:=by
  unfold D5;simp
 rw[h,List.getD_eq_getElem?_getD,List.getElem?_replicate];split<;>rfl
theorem TJ:C9 sd0.pg=D5:=rfl
theorem TI (c:Int) (d:Bool) (k:Nat):(IE sd0.pg c d).used k=false:=by
 show B8 (C9 sd0.pg) k=false;rw[TJ];unfold B8 Cm;rw[Jx];simp
theorem Lx (i:Nat):FJ D5 i=0:=by
 unfold FJ;rw[Jx,Jx];rfl
def Tr.none:Tr:=⟨0,[],[]⟩
theorem Vb {V:Pst} {r:Nat} (h1:V.rp r=0) (h2:V.rn r=0):D4 V r Tr.none:=
 ⟨rfl,⟨by simp[Tr.none],by simp[Tr.none],by simp[Tr.none],fun i hi=>absurd hi (by simp[Tr.none]),Nat.zero_le _,List.Pairwise.nil⟩,h2,h1,⟨fun _=>by simp[Tr.none],fun _=>rfl⟩,fun h=>absurd rfl h,by simp[Tr.none],fun i hi=>absurd hi (by simp[Tr.none]),List.nodup_nil⟩
section
variable {bp bd bm N:Nat} {s:St} {up:Nat->Bool} {cm:Int} {V:Pst} {w:World}
theorem Ui (w:World):Calls Tryz.prog 18 #[.pointer (some ⟨w.heap.size,0,none⟩)] (w.alloc (.cells Tryz.zeroCells64 64)) fun e w'=>∃bp bm up V,e= .returned (.tuple #[.pointer (some ⟨bp,0,none⟩),.nilIface])/\w.heap.size<bp/\w.heap.size<bm/\bp≠bm/\Tw bp w.heap.size bm 0 sd0 up 1 V w'/\(∀k,V.used k=false)/\(∀i,i<8->D4 V i Tr.none)/\Below w.heap.size w w':=by
 refine(Uk (Vf w)).mono ?_;rintro _ w1 ⟨bp,bm,rfl,h1,h2,h3,h4,h5⟩;rw[World.size_alloc]at h1 h2;refine⟨bp,bm,_,(IE sd0.pg 1 false).pst sd0.pg,rfl,h1,h2,fun e=>h3.ne e.symm,⟨⟨_,h3,Sj _ _ _,rfl,rfl,rfl,Ej.self _ _⟩,h4⟩,fun k=>TI 1 false k,fun i hi=>Vb ?_ ?_,((Below.refl _ w).alloc (Nat.le_refl _) _).trans (h5.mono (by simp))⟩
 ·exact Lx _
 ·exact Lx _
end
section
variable {bt bp bd bm N r:Nat} {s:St} {up:Nat->Bool} {cm:Int} {V:Pst}
def pfx (s:ByteArray) (_:Nat) (key:ByteArray):Bool:=Lib.hasPrefix key.data.toList s.data.toList
theorem DN (a b:ByteArray) (w:World):Calls Tryz.prog 36 #[.string a,.string b] w fun e w'=>e= .returned (.bool (Lib.hasPrefix a.data.toList b.data.toList))/\w'=w:=Go.Proofs.Any.strings_HasPrefix Tryz.lays99 a b w
theorem R9 {B:Nat} {s:ByteArray} (w:World) (h:Af B (.string s) w) (key:ByteArray) (k:Nat):
  Calls Tryz.prog 133 #[.string key,.pointer (some ⟨B,0,none⟩)] w fun e w'=>e= .returned (.bool (pfx s k key))/\w'=w:=by
 have c0:=h.cell;clear h;go_enter Tryz.func133,Tryz.ntmps133;go_wp2_with fail;refine(DN key s w).mono ?_;rintro _ w9 ⟨rfl,h9⟩;obtain rfl:=h9.symm;clear h9;go_wp2;go_ret;exact⟨rfl,rfl⟩
theorem Pd (w:World) (hT:Tt bt bp r w) (h:Tw bp bd bm N s up cm V w) {T:Tr} (hA:D4 V r T) (from_:ByteArray):
  Calls Tryz.prog 90 #[.pointer (some ⟨bt,0,none⟩),.string from_] w fun e w'=>∃v,e= .returned (.tuple #[v,.nilIface])/\Jj w.heap.size v (BJ (pfx from_) from_ 0 T.all) w'/\Below w.heap.size w w':=by
 have HA:Hid _:=hA;have hB0:Below w.heap.size w (w.alloc (.cells #[.string from_] 9)):=(Below.refl _ w).alloc (Nat.le_refl _) _;have HT0:Hid _:=hT.below hB0;have HW0:Hid _:=h.below hB0;have HB0:Hid (Below w.heap.size w (w.alloc (.cells #[.string from_] 9))):=hB0;have hmf:∀(fn:Fn) (first cap:Array Value) (w:World),(Instr.makeFunc fn first cap).run Tryz.prog w= .ok (.func fn first cap) w:=fun _ _ _ _=>rfl;have HO1:Hid (Af w.heap.size (.string from_) (w.alloc (.cells #[.string from_] 9))):=Af.new w (.string from_) 9;have hltt:=hT.lt;have hltw:=h.lt;have q0:=(Af.new w (.string from_) 9).cell;clear hA hT h hB0;go_enter Tryz.func90,Tryz.ntmps90;go_wp2_with fail
 refine(Ow (wnt:=pfx from_) (I:=fun _ wx=>Af w.heap.size (.string from_) wx) (W:=fun _=>False) _ HT0.out HW0.out HA.out from_ (fun b hb=>hb.elim) (enters_of Tryz.func133 (by kernel_rfl) rfl)
  HO1.out (fun k wx wy hh ho=>hh.only ho (by simp only[World.size_alloc];omega)) (fun k key wx hk hh=> ?_)).mono ?_
 ·refine(R9 wx hh key k).mono ?_
  rintro _ w' ⟨rfl,rfl⟩;exact⟨rfl,hh,Aa.refl _ _⟩
 rintro _ w2 ⟨v,rfl,hR,hO⟩;have HR2:Hid (Jj w.heap.size v (BJ (pfx from_) from_ 0 T.all) w2):=Du hR (by simp);have HB2:Hid (Below w.heap.size w w2):=Aa.below HB0.out hO (by simp) (fun i hi=>hi.elim);clear hR hO;go_wp2;go_ret2;exact⟨_,rfl,HR2.out,HB2.out⟩
end
section
variable {bt bp bd bm N D r:Nat} {s:St} {up:Nat->Bool} {cm:Int} {V:Pst} {w:World} {T:Tr}
end
def MS (V:Pst) (T:Tr):Prop:=∀k,V.used k=true↔k∈T.pgL
section
variable {V V':Pst} {r:Nat} {T T':Tr}
theorem MS.lay (h:MS V T) (hl:VF V V' r T T'):MS V' T':=fun k=>by
 rw[hl.used k];constructor
 ·rintro(⟨h1,h2⟩|h1)
  ·exact absurd ((h k).1 h1) h2
  ·exact h1
 ·exact fun h1=> .inr h1
theorem MS.count (h:MS V T) (hA:D4 V r T):AB V.used 2000=T.pages:=by
 rw[Ot hA.pg_nodup (fun k hk=>(hA.used_pg k hk).2.2) (fun k _=>h k),hA.pg_len]
theorem MS.none (h:∀k,V.used k=false):MS V Tr.none:=fun k=>by
 rw[h k];simp[Tr.none,Tr.pgL]
end
section
variable {bt bp bd bm N D r:Nat} {s:St} {up:Nat->Bool} {cm:Int} {V:Pst} {w:World} {T:Tr}
end
section
variable {bt bp bd bm N D:Nat} {up:Nat->Bool} {V:Pst} {T:Tr} {w0 w w':World}
end
theorem FR (x y:ByteArray) (h:x.size+y.size<=140737488360000):Op.stringOp .add x y=pure (.string (x++y)):=by
 have hn:¬(((x.size+y.size:Nat):Int) > IntKind.i64.max):=by
  have:IntKind.i64.max=9223372036854775807:=by decide
  omega
 simp only[Op.stringOp,if_neg hn]
theorem Li {s:ByteArray} (h:s.size=0):s=⟨#[]⟩:=by
 cases s with
 |mk d=>congr;exact Array.eq_empty_of_size_eq_zero h
theorem EC:∀(l:List UInt8) (c:UInt8),(0<=Lib.indexByte l c↔c∈l)/\ -1<=Lib.indexByte l c
 | [],c=>by simp[Lib.indexByte]
 |b::l,c=>by
  have ih:=EC l c;unfold Lib.indexByte
  by_cases h:b=c
  ·subst h;simp
  ·have hb:(b == c)=false:=by simpa using h
   rw[hb];simp only[Bool.false_eq_true,if_false,beq_iff_eq,List.mem_cons]
   by_cases h1:Lib.indexByte l c= -1
   ·rw[if_pos h1]
    refine⟨⟨fun h=>absurd h (by decide),fun hm=> ?_⟩,by decide⟩;rcases hm with hm|hm
    ·exact absurd hm.symm h
    ·have:=ih.1.2 hm;omega
   ·rw[if_neg h1]
    have h2:=ih.2;refine⟨⟨fun _=> .inr (ih.1.1 (by omega)),fun _=>by omega⟩,by omega⟩
theorem Mz:∀(a b:List UInt8),a<b->(0:UInt8)∉b->∀x y,a++0::x<b++0::y
 | [],[],h,_,_,_=>absurd h (List.lt_irrefl _)
 | [],c::b,_,h0,x,y=>by
   simp only[List.nil_append,List.cons_append];rw[List.cons_lt_cons_iff];refine .inl ?_;have:c≠0:=fun e=>h0 (by rw[e];simp);rw[UInt8.lt_iff_toNat_lt];have h2:c.toNat≠0:=fun e=>this (UInt8.toNat_inj.1 (by rw[e];rfl));show(0:UInt8).toNat<_;have:(0:UInt8).toNat=0:=rfl;omega
 |a::al,[],h,_,_,_=>absurd h (List.not_lt_nil _)
 |a::al,b::bs,h,h0,x,y=>by
  simp only[List.cons_append];rw[List.cons_lt_cons_iff]at h ⊢;rcases h with h|⟨rfl,h⟩
  ·exact .inl h
  ·exact .inr ⟨rfl,Mz al bs h (fun e=>h0 (by simp[e])) x y⟩
theorem IP:∀(a x y:List UInt8),x<y->a++x<a++y
 | [],_,_,h=>h
 |c::a,x,y,h=>by
  simp only[List.cons_append];rw[List.cons_lt_cons_iff];exact .inr ⟨rfl,IP a x y h⟩
theorem KB {x y:ByteArray} (h:bl x y=true):bl y x=false:=by
 cases h2:bl y x
 ·rfl
 ·have:=Dx h h2
  rw[AM]at this;cases this
theorem J8:∀(a b:List Pr),a.Pairwise (fun a b=>bl a.k b.k=true)->b.Pairwise (fun a b=>bl a.k b.k=true)->(∀x,x∈a↔x∈b)->a=b
 | [],[],_,_,_=>rfl
 | [],y::b,_,_,h=>absurd ((h y).2 (by simp)) (by simp)
 |x::a,[],_,_,h=>absurd ((h x).1 (by simp)) (by simp)
 |x::a,y::b,ha,hb,h=>by
  rw[List.pairwise_cons]at ha hb
  have hxy:x=y:=by
   rcases List.mem_cons.1 ((h x).1 (by simp))with e|h1
   ·exact e
   ·rcases List.mem_cons.1 ((h y).2 (by simp))with e|h2
    ·exact e.symm
    ·have e1:=hb.1 x h1
     have e2:=ha.1 y h2;rw[KB e1]at e2;cases e2
  subst hxy;rw[J8 a b ha.2 hb.2 (fun z=> ?_)];constructor
  ·intro hz
   rcases List.mem_cons.1 ((h z).1 (by simp[hz]))with e|h1
   ·have:=ha.1 z hz
    rw[e,AM]at this;cases this
   ·exact h1
  ·intro hz
   rcases List.mem_cons.1 ((h z).2 (by simp[hz]))with e|h1
   ·have:=hb.1 z hz
    rw[e,AM]at this;cases this
   ·exact h1
theorem JM:∀(p a b:List UInt8),¬a<p->a<b->p.isPrefixOf b=true->p.isPrefixOf a=true
 | [],a,b,_,_,_=>rfl
 |x::p,[],b,h1,_,_=>absurd (List.nil_lt_cons x p) h1
 |x::p,y::a,[],_,h2,_=>absurd h2 (List.not_lt_nil _)
 |x::p,y::a,z::b,h1,h2,h3=>by
  simp only[List.isPrefixOf,Bool.and_eq_true,beq_iff_eq]at h3 ⊢;obtain⟨rfl,h3⟩:=h3;rw[List.cons_lt_cons_iff]at h1 h2;rcases h2 with h2|⟨rfl,h2⟩
  ·exact absurd (.inl h2) h1
  ·exact⟨rfl,JM p a b (fun h=>h1 (.inr ⟨rfl,h⟩)) h2 h3⟩
theorem GN:∀(p a:List UInt8),p.isPrefixOf a=true->¬a<p
 | [],a,_=>List.not_lt_nil _
 |x::p,[],h=>by simp[List.isPrefixOf]at h
 |x::p,y::a,h=>by
  simp only[List.isPrefixOf,Bool.and_eq_true,beq_iff_eq]at h;obtain⟨rfl,h⟩:=h;rw[List.cons_lt_cons_iff];rintro(h1|⟨_,h1⟩)
  ·exact UInt8.lt_irrefl _ h1
  ·exact GN p a h h1
theorem MW (s:ByteArray):∀(l:List Pr) (k:Nat),l.Pairwise (fun a b=>bl a.k b.k=true)->BJ (pfx s) s k l=l.filter (fun x=>pfx s 0 x.k)
 | [],k,_=>rfl
 |x::r,k,h=>by
  rw[List.pairwise_cons]at h;unfold BJ;rw[List.filter_cons]
  cases hb:bl x.k s
  ·cases hp:pfx s k x.k
   ·have hp0:pfx s 0 x.k=false:=hp
    rw[hp0]
    have e:List.filter (fun x=>pfx s 0 x.k) r=[]:=by
     refine List.filter_eq_nil_iff.2 fun y hy hpy=> ?_;have h2:=h.1 y hy;rw[Eg]at h2;have h1:¬x.k.data.toList<s.data.toList:=fun e=>by rw[<-Eg,hb]at e;cases e
     have:=JM s.data.toList x.k.data.toList y.k.data.toList h1 h2 hpy;unfold pfx Lib.hasPrefix at hp;rw[this]at hp;cases hp
    rw[e];simp
   ·have hp0:pfx s 0 x.k=true:=hp
    rw[hp0,MW s r (k+1) h.2];simp
  ·have hp0:pfx s 0 x.k=false:=by
    cases hp:pfx s 0 x.k
    ·rfl
    ·exact absurd ((Eg _ _).1 hb) (GN _ _ hp)
   rw[hp0,MW s r k h.2];simp
theorem Kp (x:List UInt8):∀m:List UInt8,(0:UInt8)∉m->Lib.index (m++0::x) [0]=(m.length:Int)
 | [],_=>by simp[Lib.index,List.isPrefixOf]
 |b::m,h=>by
  have hb:(0 == b)=false:=by
   cases e:((0:UInt8) == b)
   ·rfl
   ·exact absurd (show(0:UInt8)∈b::m by rw[eq_of_beq e];simp) h
  have ih:=Kp x m (fun e=>h (by simp[e]))
  have h3:((m.length:Int) == -1)=false:=by
   cases e:((m.length:Int) == -1)
   ·rfl
   ·have:=eq_of_beq e;omega
  rw[List.cons_append,Lib.index,ih,h3];simp[List.isPrefixOf,hb]
theorem Om (m x:List UInt8) (h:(0:UInt8)∉m):Lib.cut (m++0::x) [0]=(m,x,true):=by
 unfold Lib.cut;rw[Kp x m h,if_pos (by omega)];simp
theorem Kq {t e:TypeId} {k:Nat} (ht:Tryz.prog.underlying t=some (.slice e)) (he:Tryz.prog.elem t=e) (hs:(sizeOf e).run Tryz.prog=fun w=> .ok k w) (g n cap i:Nat) (hi:i<n) (wx:World):(Instr.indexAt t (.slice (some ⟨g,0,none⟩) n cap) (.int .i64 (i:Nat))).run Tryz.prog wx= .ok (.pointer (some ⟨g,k * i,none⟩)) wx:=by
 subst he;rw[run_indexAt_slice (h:=ht),if_pos ⟨by omega,by omega⟩,hs];simp[Result.andThen,AG,Nat.mul_comm]
section
variable {B:Nat} {v:Value} {w w':World}
theorem Bz {e:TypeId} {size n:Nat} {xs:List Value} (h:w.ownsRow B e size v n xs):∃a c,v= .slice a n c:=by
 rcases h.2 with⟨e1,e2⟩|⟨g,cap,cur,e1,_⟩
 ·exact⟨none,0,by rw[e1,e2]⟩
 ·exact⟨_,cap,e1⟩
theorem VX {e:TypeId} {size n:Nat} {xs:List Value} (h:w.ownsRow B e size v n xs):n<=9223372036854775807:=by
 rcases h.2 with⟨_,e2⟩|⟨g,cap,cur,_,_,_,h4,h5,_⟩
 ·omega
 ·simp only[maxLen]at h5;omega
theorem As {e:TypeId} {size n:Nat} {xs:List Value} (h:w.ownsRow B e size v n xs) (hb:Below w.heap.size w w'):w'.ownsRow B e size v n xs:=Be h (Ab hb (fun _=>False)) (fun _ e=>e.elim)
end
structure Cp (B:Nat) (l:List Value) (w:World):Prop where
 cell:∀i (hi:i<l.length),w.cell? ⟨B,i,none⟩=some l[i]
 free:∀i,w.frozen? ⟨B,i,none⟩=false
 pos:0<l.length
section
variable {B C o:Nat} {l:List Value} {u:Value} {w w':World}
theorem Cp.lt (h:Cp B l w):B<w.heap.size:=World.block_lt_of_cell? w _ (h.cell 0 h.pos)
theorem Cp.block (h:Cp B l w) (hb:w'.heap[B]? =w.heap[B]?):Cp B l w':=
 ⟨fun i hi=>by have:=h.cell i hi;simp only[World.cell?]at this ⊢;rw[hb];exact this,fun i=>by have:=h.free i;simp only[World.frozen?]at this ⊢;rw[hb];exact this,h.pos⟩
theorem Cp.below (h:Cp B l w) (hb:Below w.heap.size w w'):Cp B l w':=h.block (hb.block _ h.lt)
theorem Cp.new (w:World) (a:Array Value) (t:TypeId) (h:0<a.size):Cp w.heap.size a.toList (w.alloc (.cells a t)):=by
 have hn:(w.alloc (.cells a t)).heap[w.heap.size]? =Option.some (.cells a t):=heap_alloc_new w _;refine⟨fun i hi=> ?_,fun i=>by simp only[World.frozen?,hn];simp,by rw[Array.length_toList];exact h⟩;simp only[World.cell?,hn];rw[Array.length_toList]at hi;simp[hi]
theorem Cp.c3 {a b c:Value} (h:Cp B [a,b,c] w):w.cell? ⟨B,0,none⟩=some a/\w.cell? ⟨B,1,none⟩=some b/\w.cell? ⟨B,2,none⟩=some c:=⟨h.cell 0 (by simp),h.cell 1 (by simp),h.cell 2 (by simp)⟩
theorem Cp.get {j:Nat} {v:Value} (h:Cp B l w) (hv:l[j]? =some v):w.cell? ⟨B,0+j,none⟩=some v:=by
 have hj:j<l.length:=(List.getElem?_eq_some_iff.1 hv).1;rw[Nat.zero_add,h.cell j hj];rw[List.getElem?_eq_getElem hj]at hv;exact hv
end
structure Fs (bf bt bp bd bm N:Nat) (up:Nat->Bool) (V:Pst) (T:Tr) (w:World):Prop where
 c:Af bf (.pointer (some ⟨bt,0,none⟩)) w
 t:Tt bt bp 3 w
 tw:Tw bp bd bm N sd0 up 1 V w
 a:D4 V 3 T
 so:MS V T
 ne:bt≠bp/\bt≠bm
 nc:bf≠bp/\bf≠bm
section
variable {bf bt bp bd bm N Z:Nat} {up:Nat->Bool} {V:Pst} {T:Tr} {M M':Pr->Prop} {w w':World}
theorem Fs.count (h:Fs bf bt bp bd bm N up V T w):AB V.used 2000<=60:=by
 rw[h.so.count h.a];exact h.a.pages_le
theorem Fs.below (h:Fs bf bt bp bd bm N up V T w) (hb:Below w.heap.size w w'):Fs bf bt bp bd bm N up V T w':=
 ⟨h.c.below hb,h.t.below hb,h.tw.below hb,h.a,h.so,h.ne,h.nc⟩
theorem Fs.lay {V':Pst} {N':Nat} {T':Tr} (h:Fs bf bt bp bd bm N up V T w) (h1:VF V V' 3 T T') (h2:Tw bp bd bm N' sd0 up 1 V' w') (h4:Aa (fun b=>b=bp\/b=bm) w w'):Fs bf bt bp bd bm N' up V' T' w':=
 ⟨h.c.only h4 (fun e=>by rcases e with e|e;exact h.nc.1 e;exact h.nc.2 e),h.t.only h4 (fun e=>by rcases e with e|e;exact h.ne.1 e;exact h.ne.2 e),h2,h1.at_,h.so.lay h1,h.ne,h.nc⟩
theorem Fs.sorted (h:Fs bf bt bp bd bm N up V T w):T.all.Pairwise (fun a b=>bl a.k b.k=true):=h.a.ok.sorted
def PrS (bf bt bp bd bm N Z:Nat) (M:Pr->Prop) (w:World):Prop:=∃N1 up V T,N1<=N/\Fs bf bt bp bd bm N1 up V T w/\szL T.all<=Z/\∀x,x∈T.all↔M x
theorem PrS.below (h:PrS bf bt bp bd bm N Z M w) (hb:Below w.heap.size w w'):PrS bf bt bp bd bm N Z M w':=by
 obtain⟨N1,up,V,T,h1,h2,h3⟩:=h;exact⟨N1,up,V,T,h1,h2.below hb,h3⟩
theorem PrS.iff (h:PrS bf bt bp bd bm N Z M w) (hM:∀x,M x↔M' x):PrS bf bt bp bd bm N Z M' w:=by
 obtain⟨N1,up,V,T,h1,h2,h3,h4⟩:=h;exact⟨N1,up,V,T,h1,h2,h3,fun x=>(h4 x).trans (hM x)⟩
theorem PrS.mono {N' Z':Nat} (h:PrS bf bt bp bd bm N Z M w) (hN:N<=N') (hZ:Z<=Z'):PrS bf bt bp bd bm N' Z' M w:=by
 obtain⟨N1,up,V,T,h1,h2,h3,h4⟩:=h;exact⟨N1,up,V,T,by omega,h2,by omega,h4⟩
theorem PrS.own (h:PrS bf bt bp bd bm N Z M w):Af bf (.pointer (some ⟨bt,0,none⟩)) w:=by
 obtain⟨N1,up,V,T,h1,h2,h3,h4⟩:=h;exact h2.c
theorem YT (h:PrS bf bt bp bd bm N Z M w) (x:Pr) (hx:x.Ok) (hZ:Z+x.sz<=30000) (hN:N+60<1000000):
  Calls Tryz.prog 60 #[.pointer (some ⟨bt,0,none⟩),.string x.k,.string x.i] w fun e w'=>e= .returned .nilIface/\PrS bf bt bp bd bm (N+40) (Z+x.sz) (fun y=>y=x\/(M y/\y.k≠x.k)) w'/\Aa (fun b=>b=bp\/b=bm) w w':=by
 obtain⟨N1,up,V,T,h1,h2,h3,h4⟩:=h;have hc:=h2.count;refine(Wb h2.t h2.tw h2.ne h2.a x hx (by omega) (by omega)).mono ?_;rintro e w' ⟨A,mid,C,hr,hg⟩;have hsz:szL T.all=szL A+szL mid+szL C:=by rw[hr.all,Am,Am]
 have hs1:szL [x]=x.sz:=rfl;rcases hg with⟨hbig,_⟩|⟨_,rfl,V',N',T',g3,g4,g5,g6,g7⟩
 ·rw[Am,Am,hs1]at hbig
  omega
 ·refine⟨rfl,⟨N',up,V',T',by omega,h2.lay g4 g5 g7,?_,fun y=> ?_⟩,g7⟩
  ·rw[g3,Am,Am,hs1];omega
  ·show _↔y=x\/M y/\y.k≠x.k
   rw[g3,<-h4 y,hr.all];constructor
   ·intro hy
    simp only[List.mem_append,List.mem_singleton]at hy;rcases hy with(hy|hy)|hy
    ·exact .inr ⟨by simp[hy],Vy (hr.less y hy)⟩
    ·exact .inl hy
    ·exact .inr ⟨by simp[hy],fun e=>Vy (hr.more y hy) e.symm⟩
   ·rintro(rfl|⟨hy,hk⟩)
    ·simp
    ·simp only[List.mem_append]at hy
     rcases hy with(hy|hy)|hy
     ·simp[hy]
     ·rcases hr.mid_ with e|⟨z,e,hz⟩
      ·rw[e]at hy;cases hy
      ·rw[e]at hy
       obtain rfl:=List.mem_singleton.1 hy;exact absurd hz hk
     ·simp[hy]
end
end
end Go.Proofs.YtgfldnaahojnlaaGreatDoor
namespace Go.Proofs
open Go.Shelf
def Tryz.lays144_ren:Go.Shelf.Ren:=⟨fun|144=>48|143=>75|219=>109|217=>70|225=>155|224=>156|267=>157|266=>107|314=>218|n=>n,fun|9=>9|4=>4|3=>3|5=>5|46=>174|146=>300|51=>289|n=>n,fun|1=>1|n=>n⟩
theorem Tryz.lays144:Go.Proofs.Lays.n144 Tryz.prog Tryz.lays144_ren:={
 mixed:=by kernel_rfl
 f143:=Tryz.func75.trans (congrArg some (by kernel_rfl))
 f144:=Tryz.func48.trans (congrArg some (by kernel_rfl))
 f217:=Tryz.func70.trans (congrArg some (by kernel_rfl))
 f219:=Tryz.func109.trans (congrArg some (by kernel_rfl))
 f224:=Tryz.func156.trans (congrArg some (by kernel_rfl))
 f225:=Tryz.func155.trans (congrArg some (by kernel_rfl))
 f266:=Tryz.func107.trans (congrArg some (by kernel_rfl))
 f267:=Tryz.func157.trans (congrArg some (by kernel_rfl))
 f314:=Tryz.func218.trans (congrArg some (by kernel_rfl))
 t3:=Tryz.underlying3
 a3:=Tryz.isAgg3
 z3:=Tryz.sizeOf3
 v3:=Tryz.zeroValue3
 t4:=Tryz.underlying4
 a4:=Tryz.isAgg4
 z4:=Tryz.sizeOf4
 v4:=Tryz.zeroValue4
 t5:=Tryz.underlying5
 a5:=Tryz.isAgg5
 z5:=Tryz.sizeOf5
 v5:=Tryz.zeroValue5
 t9:=Tryz.underlying9
 a9:=Tryz.isAgg9
 z9:=Tryz.sizeOf9
 v9:=Tryz.zeroValue9
 t46:=Tryz.underlying174
 a46:=Tryz.isAgg174
 z46:=Tryz.sizeOf174
 v46:=Tryz.zeroValue174
 t51:=Tryz.underlying289
 a51:=Tryz.isAgg289
 z51:=Tryz.sizeOf289
 v51:=Tryz.zeroValue289
 t146:=Tryz.underlying300
 a146:=Tryz.isAgg300
 z146:=Tryz.sizeOf300
 v146:=Tryz.zeroValue300
 g1:=by kernel_rfl}
open Go.RowKit Go.Lib in
theorem Tryz.strings_Contains_one (s:ByteArray) (c:UInt8) (w:World):
  Calls Tryz.prog 48 #[.string s,.string ⟨#[c]⟩] w fun e w'=>e= .returned (.bool (decide (0<=Lib.indexByte s.data.toList c)))/\w'=w:=Any.strings_Contains_one Tryz.lays144 s c w
def Tryz.lays145_ren:Go.Shelf.Ren:=⟨fun|145=>91|220=>134|219=>109|217=>70|225=>155|224=>156|267=>157|266=>107|314=>218|n=>n,fun|9=>9|4=>4|59=>183|3=>3|5=>5|46=>174|146=>300|51=>289|n=>n,fun|1=>1|n=>n⟩
theorem Tryz.lays145:Go.Proofs.Lays.n145 Tryz.prog Tryz.lays145_ren:={
 mixed:=by kernel_rfl
 f145:=Tryz.func91.trans (congrArg some (by kernel_rfl))
 f217:=Tryz.func70.trans (congrArg some (by kernel_rfl))
 f219:=Tryz.func109.trans (congrArg some (by kernel_rfl))
 f220:=Tryz.func134.trans (congrArg some (by kernel_rfl))
 f224:=Tryz.func156.trans (congrArg some (by kernel_rfl))
 f225:=Tryz.func155.trans (congrArg some (by kernel_rfl))
 f266:=Tryz.func107.trans (congrArg some (by kernel_rfl))
 f267:=Tryz.func157.trans (congrArg some (by kernel_rfl))
 f314:=Tryz.func218.trans (congrArg some (by kernel_rfl))
 t3:=Tryz.underlying3
 a3:=Tryz.isAgg3
 z3:=Tryz.sizeOf3
 v3:=Tryz.zeroValue3
 t4:=Tryz.underlying4
 a4:=Tryz.isAgg4
 z4:=Tryz.sizeOf4
 v4:=Tryz.zeroValue4
 t5:=Tryz.underlying5
 a5:=Tryz.isAgg5
 z5:=Tryz.sizeOf5
 v5:=Tryz.zeroValue5
 t9:=Tryz.underlying9
 a9:=Tryz.isAgg9
 z9:=Tryz.sizeOf9
 v9:=Tryz.zeroValue9
 t46:=Tryz.underlying174
 a46:=Tryz.isAgg174
 z46:=Tryz.sizeOf174
 v46:=Tryz.zeroValue174
 t51:=Tryz.underlying289
 a51:=Tryz.isAgg289
 z51:=Tryz.sizeOf289
 v51:=Tryz.zeroValue289
 t59:=Tryz.underlying183
 a59:=Tryz.isAgg183
 z59:=Tryz.sizeOf183
 v59:=Tryz.zeroValue183
 t146:=Tryz.underlying300
 a146:=Tryz.isAgg300
 z146:=Tryz.sizeOf300
 v146:=Tryz.zeroValue300
 g1:=by kernel_rfl}
open Go.RowKit Go.Lib in
theorem Tryz.strings_Cut (s sep:ByteArray) (m:Int) (w:World) (hs:s.size<4294967281) (hm:w.cell? ⟨1,0,none⟩=some (.int .i64 m)):
  Calls Tryz.prog 91 #[.string s,.string sep] w fun e w'=>e= .returned (.tuple #[.string ⟨(Lib.cut s.data.toList sep.data.toList).1.toArray⟩,.string ⟨(Lib.cut s.data.toList sep.data.toList).2.1.toArray⟩,.bool (Lib.cut s.data.toList sep.data.toList).2.2])/\∃n,w'=w.drewN n:=Any.strings_Cut Tryz.lays145 s sep m w hs hm
open Go.RowKit Go.Lib in
def Tryz.lays194_ren:Go.Shelf.Ren:=⟨fun|194=>195|n=>n,fun|31=>22|9=>9|3=>3|4=>4|0=>0|n=>n,fun|n=>n⟩
theorem Tryz.lays194:Go.Proofs.Lays.n194 Tryz.prog Tryz.lays194_ren:={
 mixed:=by kernel_rfl
 f194:=Tryz.func195.trans (congrArg some (by kernel_rfl))
 t0:=Tryz.underlying0
 a0:=Tryz.isAgg0
 z0:=Tryz.sizeOf0
 v0:=Tryz.zeroValue0
 t3:=Tryz.underlying3
 a3:=Tryz.isAgg3
 z3:=Tryz.sizeOf3
 v3:=Tryz.zeroValue3
 t4:=Tryz.underlying4
 a4:=Tryz.isAgg4
 z4:=Tryz.sizeOf4
 v4:=Tryz.zeroValue4
 t9:=Tryz.underlying9
 a9:=Tryz.isAgg9
 z9:=Tryz.sizeOf9
 v9:=Tryz.zeroValue9
 t31:=Tryz.underlying22
 a31:=Tryz.isAgg22
 z31:=Tryz.sizeOf22
 v31:=Tryz.zeroValue22}
open Go.RowKit Go.Lib Go.Sort in
open Go.RowKit Go.Lib Go.Sort in
theorem Tryz.slices_Compact_string (blk off cap:Nat) (zs:List (List UInt8)) (w:World) (hH:Holds encStr w blk off zs.toArray) (hsz:zs.length<=9223372036854775807) (hcap:zs.length<=cap):
  Calls Tryz.prog 195 #[.slice (some ⟨blk,off,none⟩) zs.length cap] w fun e w'=>e= .returned (.slice (some ⟨blk,off,none⟩) (Lib.compact zs).length cap)/\∃q,w'=putRow encStr (Sort.ahead w q) blk off (Lib.compact zs++List.replicate (zs.length-(Lib.compact zs).length) []).toArray:=Any.slices_Compact_string Tryz.lays194 blk off cap zs w hH hsz hcap
open Go.RowKit Go.Lib Go.Sort in
theorem Tryz.slices_Compact_string_empty (a:Option Addr) (cap:Nat) (w:World):
  Calls Tryz.prog 195 #[.slice a 0 cap] w fun e w'=>e= .returned (.slice a 0 cap)/\w'=w:=Any.slices_Compact_string_empty Tryz.lays194 a cap w
end Go.Proofs
namespace Go.Proofs.YtgfldnaahojnlaaGreatDoor
section
open Go.RowKit Go.Maps
def BD (nm s:ByteArray):ByteArray:=nm++⟨#[0]⟩++s
def Fd (r:Nat):List UInt8:=[B7 ((r:Int) / 16777216),B7 ((r:Int) / 65536),B7 ((r:Int) / 256),B7 (r:Int)]
def CM (nm s:ByteArray) (r:Nat):ByteArray:=BD nm s++⟨#[0]⟩++⟨(Fd r).toArray⟩
theorem Ng (nm s:ByteArray):(BD nm s).data.toList=nm.data.toList++0::s.data.toList:=by simp[BD]
theorem EQ (nm s:ByteArray):(BD nm s).size=nm.size+1+s.size:=by unfold BD;rw[ByteArray.size_append,ByteArray.size_append];rfl
theorem Fq (nm s:ByteArray) (r:Nat):(CM nm s r).data.toList=nm.data.toList++0::(s.data.toList++0::Fd r):=by simp[CM,BD]
theorem LA (nm s:ByteArray) (r:Nat):(CM nm s r).size=nm.size+s.size+6:=by
 unfold CM;rw[ByteArray.size_append,ByteArray.size_append,EQ];show nm.size+1+s.size+1+4=_;omega
theorem GU (nm s:ByteArray) (hn:nm.size<=1000) (hs:s.size<=1000) (w:World):Calls Tryz.prog 88 #[.string nm,.string s] w fun e w'=>e= .returned (.string (BD nm s))/\w'=w:=by
 have h1:=FR nm ⟨#[0]⟩ (by show nm.size+1<=_;omega);have h2:=FR (nm++⟨#[0]⟩) s (by rw[ByteArray.size_append];show nm.size+1+s.size<=_;omega);go_enter Tryz.func88,Tryz.ntmps88;go_wp2;go_ret;exact⟨rfl,rfl⟩
theorem Yt (w:World) (a b c d:UInt8) {p q r s:Int} (h1:p=(a.toNat:Int)) (h2:q=(b.toNat:Int)) (h3:r=(c.toNat:Int)) (h4:s=(d.toNat:Int)):Xe 0 (.slice (some ⟨w.heap.size,0,none⟩) 4 4) [a,b,c,d] (w.alloc (.cells #[.int .u8 p,.int .u8 q,.int .u8 r,.int .u8 s] 5)):=by
 subst h1 h2 h3 h4;exact World.ownsRow_lit (base:=0) (e:=5) (size:=1) w #[.int .u8 (a.toNat:Nat),.int .u8 (b.toNat:Nat),.int .u8 (c.toNat:Nat),.int .u8 (d.toNat:Nat)] 4 (Nat.zero_le _) (by decide) rfl
set_option maxHeartbeats 1000000
theorem Km (nm s:ByteArray) (r:Nat) (hn:nm.size<=1000) (hs:s.size<=1000) (w:World):Calls Tryz.prog 53 #[.string nm,.string s,.int .i64 (r:Nat)] w fun e w'=>e= .returned (.string (CM nm s r))/\Below w.heap.size w w':=by
 have h1:=FR (BD nm s) ⟨#[0]⟩ (by rw[EQ];show nm.size+1+s.size+1<=_;omega);have h2:=FR (BD nm s++⟨#[0]⟩) ⟨(Fd r).toArray⟩ (by rw[ByteArray.size_append,EQ];show nm.size+1+s.size+1+4<=_;omega);have b0:=BB ((r:Int) / 16777216);have b1:=BB ((r:Int) / 65536);have b2:=BB ((r:Int) / 256);have b3:=BB (r:Int);have HB:Hid (Below w.heap.size w (w.alloc (.cells #[.int .u8 ((B7 ((r:Int) / 16777216)).toNat:Int),.int .u8 ((B7 ((r:Int) / 65536)).toNat:Int),.int .u8 ((B7 ((r:Int) / 256)).toNat:Int),.int .u8 ((B7 (r:Int)).toNat:Int)] 5)).drew):=((Below.refl _ w).alloc (Nat.le_refl _) _).drew;have C0:Hid ((convert 166 9 (.slice (some ⟨w.heap.size,0,none⟩) 4 4)).run Tryz.prog (w.alloc (.cells #[.int .u8 ((B7 ((r:Int) / 16777216)).toNat:Int),.int .u8 ((B7 ((r:Int) / 65536)).toNat:Int),.int .u8 ((B7 ((r:Int) / 256)).toNat:Int),.int .u8 ((B7 (r:Int)).toNat:Int)] 5)).drew= .ok (.string ⟨(Fd r).toArray⟩) (w.alloc (.cells #[.int .u8 ((B7 ((r:Int) / 16777216)).toNat:Int),.int .u8 ((B7 ((r:Int) / 65536)).toNat:Int),.int .u8 ((B7 ((r:Int) / 256)).toNat:Int),.int .u8 ((B7 (r:Int)).toNat:Int)] 5)).drew):=Qk (World.ownsRow.drew (Yt w _ _ _ _ rfl rfl rfl rfl)) (by simp[Fd]);go_enter Tryz.func53,Tryz.ntmps53;go_wp2_with fail;clear b0 b1 b2 b3
 go_region_held3 (fun wx=>(convert 166 9 (.slice (some ⟨w.heap.size,0,none⟩) 4 4)).run Tryz.prog wx= .ok (.string ⟨(Fd r).toArray⟩) wx) (exact C0.out) (first|(go_at_call 88;refine(GU nm s hn hs _).mono ?_;rintro _ w9 ⟨rfl,h9⟩;obtain rfl:=h9.symm;clear h9))
 go_wp2;go_ret;exact⟨rfl,HB.out⟩
def DL (nm:ByteArray):Bool:=decide (nm.size=0) || decide (16<nm.size) || decide ((0:UInt8)∈nm.data.toList)
def CV (nm:ByteArray) (r:Int):Int:=if DL nm then 1 else if r<1\/1073741824<r then 2 else 0
theorem JA {nm:ByteArray} (h:nm.size=0):nm.toList=[]:=by
 rw[ByteArray.toList_eq,Li h]
theorem KN {nm:ByteArray} (h:¬nm.size=0):¬nm.toList=[]:=by
 rw[ByteArray.toList_eq];intro e;exact h (by show nm.data.size=0;rw[<-Array.length_toList,e];rfl)
theorem P8 (nm:ByteArray):decide (0<=Lib.indexByte nm.data.toList 0)=decide ((0:UInt8)∈nm.data.toList):=by
 by_cases h:(0:UInt8)∈nm.data.toList
 ·rw[decide_eq_true h,decide_eq_true ((EC _ _).1.2 h)]
 ·rw[decide_eq_false h,decide_eq_false (fun e=>h ((EC _ _).1.1 e))]
theorem KA (nm:ByteArray) (r:Int) (w:World):Calls Tryz.prog 23 #[.string nm,.int .i64 r] w fun e w'=>e= .returned (Gh (CV nm r))/\w'=w:=by
 have hE1:∀n:Int,n≠0->Gh n= .iface 24 (.int .i64 n):=fun n hn=>by unfold Gh;rw[if_neg hn]
 have hE0:Gh 0= .nilIface:=rfl
 by_cases h0:nm.size=0
 ·have hl:=JA h0
  have hc:CV nm r=1:=by simp[CV,DL,h0]
  rw[hc,hE1 1 (by decide)];obtain rfl:=Li h0;clear h0 hc hE1 hE0;go_enter Tryz.func23,Tryz.ntmps23;go_wp2;go_ret;exact⟨rfl,rfl⟩
 ·have hl:=KN h0
  have hq:nm.toList.isEmpty=false:=List.isEmpty_eq_false_iff.2 hl
  by_cases h1:16<nm.size
  ·have i1:(16:Int)<(nm.size:Int):=by omega
   have hc:CV nm r=1:=by simp[CV,DL,h1]
   rw[hc,hE1 1 (by decide)];clear h0 hc h1 hE1 hE0 hl;go_enter Tryz.func23,Tryz.ntmps23;go_wp2;go_ret;exact⟨rfl,rfl⟩
  ·have i1:¬(16:Int)<(nm.size:Int):=by omega
   by_cases h2:(0:UInt8)∈nm.data.toList
   ·have hc:CV nm r=1:=by simp[CV,DL,h2]
    rw[hc,hE1 1 (by decide)];have hd:=P8 nm;rw[decide_eq_true h2]at hd;clear h0 hc h1 h2 hE1 hE0 hl;go_enter Tryz.func23,Tryz.ntmps23;go_wp2_with fail;refine(Tryz.strings_Contains_one nm 0 w).mono ?_;rintro _ w9 ⟨rfl,h9⟩;obtain rfl:=h9.symm;rw[hd];clear h9 hd;go_wp2;go_ret;exact⟨rfl,rfl⟩
   ·have hb:DL nm=false:=by simp only[DL,decide_eq_false h0,decide_eq_false h1,decide_eq_false h2,Bool.or_self]
    have hd:=P8 nm;rw[decide_eq_false h2]at hd
    by_cases h3:r<1
    ·have hc:CV nm r=2:=by rw[CV,hb,if_neg (by decide),if_pos (.inl h3)]
     rw[hc,hE1 2 (by decide)];clear h0 hc h1 h2 hE1 hE0 hl hb;go_enter Tryz.func23,Tryz.ntmps23;go_wp2_with fail;refine(Tryz.strings_Contains_one nm 0 w).mono ?_;rintro _ w9 ⟨rfl,h9⟩;obtain rfl:=h9.symm;rw[hd];clear h9 hd;go_wp2;go_ret;exact⟨rfl,rfl⟩
    ·by_cases h4:1073741824<r
     ·have hc:CV nm r=2:=by rw[CV,hb,if_neg (by decide),if_pos (.inr h4)]
      rw[hc,hE1 2 (by decide)];clear h0 hc h1 h2 hE1 hE0 hl hb;go_enter Tryz.func23,Tryz.ntmps23;go_wp2_with fail;refine(Tryz.strings_Contains_one nm 0 w).mono ?_;rintro _ w9 ⟨rfl,h9⟩;obtain rfl:=h9.symm;rw[hd];clear h9 hd;go_wp2;go_ret;exact⟨rfl,rfl⟩
     ·have hc:CV nm r=0:=by rw[CV,hb,if_neg (by decide),if_neg (by omega)]
      rw[hc,hE0];clear h0 hc h1 h2 hE1 hE0 hl hb;go_enter Tryz.func23,Tryz.ntmps23;go_wp2_with fail;refine(Tryz.strings_Contains_one nm 0 w).mono ?_;rintro _ w9 ⟨rfl,h9⟩;obtain rfl:=h9.symm;rw[hd];clear h9 hd;go_wp2;go_ret;exact⟨rfl,rfl⟩
theorem RM (bt:Nat) (w:World):Calls Tryz.prog 20 #[.pointer (some ⟨bt,0,none⟩)] w fun e w'=>e= .returned (.tuple #[.pointer (some ⟨w.heap.size,0,none⟩),.nilIface])/\w'=w.alloc (.cells #[.pointer (some ⟨bt,0,none⟩)] 124):=by
 go_enter Tryz.func20,Tryz.ntmps20;go_wp2;go_ret2;exact⟨rfl,rfl⟩
end
end Go.Proofs.YtgfldnaahojnlaaGreatDoor

namespace Go.Proofs.YtgfldnaahojnlaaGreatDoor
end Go.Proofs.YtgfldnaahojnlaaGreatDoor
