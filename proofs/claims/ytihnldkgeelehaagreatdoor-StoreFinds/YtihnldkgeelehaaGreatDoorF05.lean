/- StoreFinds: part 5. -/
import Derived.Test.YtihnldkgeelehaaGreatDoorF04
import Derived.Sort.Walk0
set_option maxRecDepth 100000
set_option maxHeartbeats 4000000
namespace Go.Proofs.YtihnldkgeelehaaGreatDoor
section
open Go.RowKit Go.Maps
structure Tr where
 top:Nat
 ks:List Nat
 Ls:List (List Pr)
def Tr.all (T:Tr):List Pr:=T.Ls.flatten
structure BC (Ls:List (List Pr)):Prop where
 ne:∀L∈Ls,L≠[]
 fit:∀L∈Ls,szL L<=1024
 ok:∀L∈Ls,∀x∈L,x.Ok
 adj:∀i (hi:i+1<Ls.length),1024<szL (Ls[i]'(by omega))+szL Ls[i+1]
 sum:szL Ls.flatten<=30000
 sorted:Ls.flatten.Pairwise (fun a b=>bl a.k b.k=true)
structure Ck (V:Pst) (r:Nat) (T:Tr):Prop where
 len:T.ks.length=T.Ls.length
 ok:BC T.Ls
 rn:V.rn r=(szL T.all:Nat)
 rp:V.rp r=((if T.top=0 then T.ks.headD 0 else T.top:Nat):Int)
 top0:T.top=0↔T.Ls.length<=1
 ltop:T.top≠0->T.top<2000/\V.used T.top=true/\V.tx T.top=pad (F5 T.ks)/\T.top∉T.ks
 low:∀k∈T.ks,0<k/\k<2000/\V.used k=true
 page:∀i (hi:i<T.ks.length) (hl:i<T.Ls.length),V.tx T.ks[i]=pad (Al T.Ls[i])
 nodup:T.ks.Nodup
section
variable {Ls:List (List Pr)}
theorem LX:∀(Ls:List (List Pr)),(∀i (hi:i+1<Ls.length),1024<szL (Ls[i]'(by omega))+szL Ls[i+1])->1025 * (Ls.length / 2)<=szL Ls.flatten
 | [],_=>by simp
 | [_],_=>by simp
 |A::B::r,h=>by
  have h0:=h 0 (by simp)
  have ih:=LX r (fun i hi=>by
   have:=h (i+2) (by simp;omega);simpa using this)
  rw[List.flatten_cons,List.flatten_cons,Af,Af];simp only[List.getElem_cons_zero,List.getElem_cons_succ]at h0;simp only[List.length_cons];omega
theorem BC.len (h:BC Ls):Ls.length<=59:=by
 have h1:=LX Ls h.adj;have h2:=h.sum;omega
theorem BC.many (h:BC Ls) (hl:2<=Ls.length):1024<szL Ls.flatten:=by
 have h1:=LX Ls h.adj;omega
theorem BC.few (h:BC Ls) (hl:Ls.length<=1):szL Ls.flatten<=1024:=by
 match Ls,hl with
 | [],_=>exact Nat.zero_le _
 | [L],_=>rw[List.flatten_cons,List.flatten_nil,List.append_nil];exact h.fit L (by simp)
 |A::B::r,hl=>simp at hl
end
section
variable {bt bp bd bm N r:Nat} {s:St} {up:Nat->Bool} {cm:Int} {V:Pst} {w:World}
theorem SS (hT:Tt bt bp r w) (h:Tw bp bd bm N s up cm V w):
  Calls Tryz.prog 172 #[.pointer (some ⟨bt,0,none⟩)] w fun e w'=>e= .returned (.int .i64 (V.rn r))/\Below w.heap.size w w':=by
 have H8:Hid _:=hT.lt8;have HT:Hid (Tt bt bp r w.drew):=hT.drew;have HW:Hid _:=h.drew;have HB0:Hid (Below w.heap.size w w.drew):=(Below.refl _ w).drew;clear hT h;go_enter Tryz.func172,Tryz.ntmps172;go_wp2_with fail
 go_region_held3 (fun wx=>wx.cell? ⟨bt,0,none⟩=some (.pointer (some ⟨bp,0,none⟩))/\wx.cell? ⟨bt,1,none⟩=some (.int .i64 r)) (first|exact⟨HT.out.cp,HT.out.cr⟩|exact⟨HT1.out.cp,HT1.out.cr⟩)
  (first|(go_at_call 107;refine(Li HW.out r H8.out).mono ?_;rintro _ w1 ⟨rfl,hb1⟩;have HT1:Hid _:=HT.out.below hb1;have HB1:Hid (Below w.heap.size w w1):=HB0.out.trans (hb1.mono HB0.out.size);clear hb1))
 go_wp2;go_ret;exact⟨rfl,HB1.out⟩
theorem Cn {P:Program} {fn:Func} {p q:Tmp} {t:TypeId} {v u:Value} (h:fn.results= #[.cell p t,.tmp q]) (tmps:Array Value) (w:World) (a:Addr) (hp:tmps.getD p undef= .pointer (some a)) (hq:tmps.getD q undef=u) (hl:(loadVar t a).run P w= .ok v w):
  (results fn tmps).run P w= .ok (.tuple #[v,u]) w:=by
 have e0:tmps[p]?.getD undef= .pointer (some a):=by simpa [Array.getD_eq_getD_getElem?]using hp
 have e1:tmps[q]?.getD undef=u:=by simpa [Array.getD_eq_getD_getElem?]using hq
 simp[results,h,e0,e1,asAddr,hl]
theorem NW {w:World} {B:Nat} {a b:Value} (h0:w.cell? ⟨B,0,none⟩=some a) (h1:w.cell? ⟨B,1,none⟩=some b):(loadVar 202 ⟨B,0,none⟩).run Tryz.prog w= .ok (.agg #[a,b]) w:=
 run_loadVar_mid (P:=Tryz.prog) w B 0 202 [a,b] _ (fun j v hv=>by
  match j,hv with
  |0,hv=>cases hv;exact h0
  |1,hv=>cases hv;exact h1
  |j+2,hv=>simp at hv) Tryz.underlying202 rfl (by kernel_rfl)
structure CO (B:Nat) (a b:Value) (w:World):Prop where
 c0:w.cell? ⟨B,0,none⟩=some a
 c1:w.cell? ⟨B,1,none⟩=some b
 f0:w.frozen? ⟨B,0,none⟩=false
 f1:w.frozen? ⟨B,1,none⟩=false
theorem CO.lt {B:Nat} {a b:Value} {w:World} (h:CO B a b w):B<w.heap.size:=World.block_lt_of_cell? w _ h.c0
theorem CO.block {B:Nat} {a b:Value} {w w':World} (h:CO B a b w) (hb:w'.heap[B]? =w.heap[B]?):CO B a b w':=by
 refine⟨?_,?_,?_,?_⟩
 ·have:=h.c0;simp only[World.cell?]at this ⊢;rw[hb];exact this
 ·have:=h.c1;simp only[World.cell?]at this ⊢;rw[hb];exact this
 ·have:=h.f0;simp only[World.frozen?]at this ⊢;rw[hb];exact this
 ·have:=h.f1;simp only[World.frozen?]at this ⊢;rw[hb];exact this
theorem CO.new (w:World) (a b:Value) (t:TypeId):CO w.heap.size a b (w.alloc (.cells #[a,b] t)):=by
 have hn:(w.alloc (.cells #[a,b] t)).heap[w.heap.size]? =some (.cells #[a,b] t):=heap_alloc_new w _;exact⟨by simp only[World.cell?,hn];rfl,by simp only[World.cell?,hn];rfl,by simp only[World.frozen?,hn];simp,by simp only[World.frozen?,hn];simp⟩
theorem CO.set2 {B:Nat} {a b:Value} {w:World} (h:CO B a b w) (a' b':Value):CO B a' b' ((w.setCell ⟨B,0,none⟩ a').setCell ⟨B,1,none⟩ b'):=by
 have h1:(w.setCell ⟨B,0,none⟩ a').cell? ⟨B,1,none⟩=some b:=by rw[World.cell?_setCell_other _ _ _ _ (fun e=>by cases e)];exact h.c1
 refine⟨?_,World.cell?_setCell_same _ _ _ h1,?_,?_⟩
 ·rw[World.cell?_setCell_other _ _ _ _ (fun e=>by cases e)];exact World.cell?_setCell_same _ _ _ h.c0
 ·rw[World.frozen?_setCell,World.frozen?_setCell];exact h.f0
 ·rw[World.frozen?_setCell,World.frozen?_setCell];exact h.f1
theorem Ao.set2 {C B:Nat} {v:Value} {xs:List Value} {w:World} (h:Ao C v xs w) (a b:Value) (hB:B<C):Ao C v xs ((w.setCell ⟨B,0,none⟩ a).setCell ⟨B,1,none⟩ b):=
 (h.only (Aa.set B 0 a w) (fun _ e=>by cases e;exact hB)).only (Aa.set B 1 b _) (fun _ e=>by cases e;exact hB)
theorem Km (ks:List Nat):(F5 ks).size=2 * ks.length:=by
 show(DA ks).toArray.size=_;rw[List.size_toArray,Dj]
theorem Pw (ks:List Nat):(F5 ks).data.toList=DA ks:=by unfold F5;simp
def Vs (w0:World) (top:Nat) (ks:List Nat) (e:Ending) (w':World):Prop:=∃v,e= .returned (.tuple #[.agg #[.int .i64 (top:Nat),v],.nilIface])/\Ao (w0.heap.size+1) v (At ks) w'/\Below w0.heap.size w0 w'
set_option maxHeartbeats 1000000
theorem JF (hT:Tt bt bp r w) (h:Tw bp bd bm N s up cm V w) {T:Tr} (hA:Ck V r T):
  Calls Tryz.prog 164 #[.pointer (some ⟨bt,0,none⟩)] w fun e w'=>Vs w T.top T.ks e w':=by
 have H8:Hid _:=hT.lt8;have HA:Hid _:=hA;have hb0:Below w.heap.size w (w.alloc (.cells #[.int .i64 0,.slice none 0 0] 202)):=(Below.refl _ w).alloc (Nat.le_refl _) _;have HT0:Hid (Tt bt bp r (w.alloc (.cells #[.int .i64 0,.slice none 0 0] 202))):=hT.below hb0;have HW0:Hid (Tw bp bd bm N s up cm V (w.alloc (.cells #[.int .i64 0,.slice none 0 0] 202))):=h.below hb0;have q0:=HT0.out.cp;have hl0:=hT.lt;have hz:=Tryz.zeroValue202;clear hA hT h;go_enter Tryz.func164,Tryz.ntmps164;go_wp2_with fail;refine(SQ HW0.out).mono ?_;rintro _ wa ⟨rfl,hwa⟩;subst wa;clear q0;obtain⟨W,hW⟩:∃W,w.alloc (.cells #[.int .i64 0,.slice none 0 0] 202)=W:=⟨_,rfl⟩;have HV0:Hid (CO w.heap.size (.int .i64 0) (.slice none 0 0) W):=by rw[<-hW];exact CO.new w _ _ _
 have HB0:Hid (Below w.heap.size w W.drew):=by rw[<-hW];exact hb0.drew
 rw[hW]at HT0 HW0;rw[hW];clear hW hb0;have HT:Hid (Tt bt bp r W.drew):=HT0.out.drew;have HW:Hid (Tw bp bd bm N s up cm V W.drew):=HW0.out.drew;have HV:Hid (CO w.heap.size (.int .i64 0) (.slice none 0 0) W.drew):=HV0.out.block rfl;obtain⟨P,HRP,HP⟩:∃P:Nat,Hid (V.rp r=(P:Nat))/\Hid (P=if T.top=0 then T.ks.headD 0 else T.top):=⟨_,HA.out.rp,rfl⟩;obtain⟨S,HRN,HS⟩:∃S:Nat,Hid (V.rn r=(S:Nat))/\Hid (S=szL T.Ls.flatten):=⟨_,HA.out.rn,rfl⟩;clear HT0 HW0 HV0;go_wp2_with fail
 go_region_held3 (fun wx=>wx.cell? ⟨bt,0,none⟩=some (.pointer (some ⟨bp,0,none⟩))/\wx.cell? ⟨bt,1,none⟩=some (.int .i64 r)) (first|exact⟨HT.out.cp,HT.out.cr⟩|exact⟨HT1.out.cp,HT1.out.cr⟩)
  (first|(go_at_call 107;refine(Li HW.out r H8.out).mono ?_;rintro _ w1 ⟨rfl,hb1⟩;rw[HRP.out,HRN.out];have HT1:Hid _:=HT.out.below hb1;have HW1:Hid _:=HW.out.below hb1;have HV1:Hid (CO w.heap.size (.int .i64 0) (.slice none 0 0) w1):=HV.out.block (hb1.block _ HV.out.lt);have HB1:Hid (Below w.heap.size w w1):=HB0.out.trans (hb1.mono HB0.out.size);clear hb1))
 clear HT HW HV HB0 HRP HRN;have c0:=HV1.out.c0;have c1:=HV1.out.c1;have f0:=HV1.out.f0;have f1:=HV1.out.f1;rcases Nat.lt_or_ge 1 T.Ls.length with hm|hm
 ·have htop:T.top≠0:=fun e=>by have:=HA.out.top0.1 e;omega
  obtain⟨t1,t2,t3,t4⟩:=HA.out.ltop htop;obtain rfl:P=T.top:=by rw[HP.out,if_neg htop]
  have hsum:¬(S:Int)<=1024:=by have:=HA.out.ok.many hm;have:=HS.out;omega
  have hti:¬(T.top:Int)=0:=by omega
  have q0:=HT1.out.cp;have HX:Hid (V.tx T.top=pad (F5 T.ks)):=t3;go_wp2_with fail;refine(Iq HW1.out T.top t1 t2).mono ?_;rintro _ w2 ⟨rfl,hb2⟩;rw[HX.out];have HB2:Hid (Below w.heap.size w w2):=HB1.out.trans (hb2.mono HB1.out.size);have HV2:Hid (CO w.heap.size (.int .i64 0) (.slice none 0 0) w2):=HV1.out.block (hb2.block _ HV1.out.lt);clear hb2 c0 c1 f0 f1 q0;go_wp2_with fail;have hlen:=HA.out.ok.len;have hkl:=HA.out.len;refine(M5 (ks:=T.ks) (z:=1024-(F5 T.ks).size) w2 (by rw[ME _ (by rw[Km];omega)];exact congrArg (·++_) (Pw T.ks)) (fun k hk=>⟨(HA.out.low k hk).1,(HA.out.low k hk).2.1⟩) (by rw[Jh];omega)).mono ?_;rintro _ w3 ⟨v,rfl,hR3,hb3⟩;have HB3:Hid (Below w.heap.size w w3):=HB2.out.trans (hb3.mono HB2.out.size);have HV3:Hid (CO w.heap.size (.int .i64 0) (.slice none 0 0) w3):=HV2.out.block (hb3.block _ HV2.out.lt);have HR3:Hid (Ao (w.heap.size+1) v (At T.ks) w3):=(D5.view hR3).mono HV2.out.lt;have c0:=HV3.out.c0;have c1:=HV3.out.c1;have f0:=HV3.out.f0;have f1:=HV3.out.f1;clear hb3 hR3 hlen hkl;obtain⟨a9,cap9,rfl,_⟩:=HR3.out.is;have HV4:Hid _:=HV3.out.set2 (.int .i64 (T.top:Nat)) (.slice a9 (At T.ks).length cap9);have HR4:Hid _:=HR3.out.set2 (.int .i64 (T.top:Nat)) (.slice a9 (At T.ks).length cap9) (B:=w.heap.size) (Nat.lt_succ_self _);have HB4:Hid (Below w.heap.size w ((w3.setCell ⟨w.heap.size,0,none⟩ (.int .i64 (T.top:Nat))).setCell ⟨w.heap.size,1,none⟩ (.slice a9 (At T.ks).length cap9))):=(HB3.out.setCell (Nat.le_refl _) _).setCell (Nat.le_refl _) _;go_wp2
  (try simp only[Exit.inBlock,Exit.then])
  exact bodyPost_ret (Cn Tryz.results164 _ _ _ rfl rfl (NW HV4.out.c0 HV4.out.c1)) rfl ⟨_,rfl,HR4.out,HB4.out⟩
 ·have htop:T.top=0:=HA.out.top0.2 (by omega)
  rcases Nat.eq_zero_or_pos T.Ls.length with h0|h0
  ·have hk0:T.ks=[]:=List.length_eq_zero_iff.1 (by rw[HA.out.len,h0])
   obtain rfl:P=0:=by rw[HP.out,if_pos htop,hk0];rfl
   have HK0:Hid _:=hk0;have HTOP:Hid _:=htop;clear hk0 htop;have HV4:Hid _:=HV1.out.set2 (.int .i64 0) (.slice none 0 0);have HR4:Hid (Ao (w.heap.size+1) (.slice none 0 0) (At []) w1):=Ao.of_own (e:=3) (World.ownsRow_nil _ _ _ _);have HR5:Hid _:=HR4.out.set2 (.int .i64 0) (.slice none 0 0) (B:=w.heap.size) (Nat.lt_succ_self _);have HB4:Hid (Below w.heap.size w ((w1.setCell ⟨w.heap.size,0,none⟩ (.int .i64 0)).setCell ⟨w.heap.size,1,none⟩ (.slice none 0 0))):=(HB1.out.setCell (Nat.le_refl _) _).setCell (Nat.le_refl _) _;have hbd:∀wx,(Instr.build 202 #[]).run Tryz.prog wx= .ok (.agg #[.int .i64 0,.slice none 0 0]) wx:=fun wx=>by simp[go_sem,hz]
   go_wp2
   (try simp only[Exit.inBlock,Exit.then])
   exact bodyPost_ret (Cn Tryz.results164 _ _ _ rfl rfl (NW HV4.out.c0 HV4.out.c1)) rfl ⟨_,by rw[HTOP.out];rfl,by rw[HK0.out];exact HR5.out,HB4.out⟩
  ·obtain⟨k,hk⟩:∃k,T.ks=[k]:=List.length_eq_one_iff.1 (by rw[HA.out.len];omega)
   obtain rfl:P=k:=by rw[HP.out,if_pos htop,hk];rfl
   have hkp:=(HA.out.low P (by rw[hk];simp)).1;have hki:¬(P:Int)=0:=by omega
   have hsum:(S:Int)<=1024:=by have:=HA.out.ok.few hm;have:=HS.out;omega
   have HK0:Hid _:=hk;have HTOP:Hid _:=htop;have HN:Hid (Ao (w.heap.size+1) (.slice (some ⟨w1.heap.size,0,none⟩) 1 1) (At [P]) (w1.alloc (.cells #[.int .i64 (P:Nat)] 3))):=Ao.of_own (e:=3) (World.ownsRow_lit w1 #[.int .i64 (P:Nat)] 1 HV1.out.lt (by decide) rfl);have HV2:Hid (CO w.heap.size (.int .i64 0) (.slice none 0 0) (w1.alloc (.cells #[.int .i64 (P:Nat)] 3))):=HV1.out.block (Below.heap_alloc w1 _ _ HV1.out.lt);have HV4:Hid _:=HV2.out.set2 (.int .i64 0) (.slice (some ⟨w1.heap.size,0,none⟩) 1 1);have HR5:Hid _:=HN.out.set2 (.int .i64 0) (.slice (some ⟨w1.heap.size,0,none⟩) 1 1) (B:=w.heap.size) (Nat.lt_succ_self _);have HB4:Hid (Below w.heap.size w (((w1.alloc (.cells #[.int .i64 (P:Nat)] 3)).setCell ⟨w.heap.size,0,none⟩ (.int .i64 0)).setCell ⟨w.heap.size,1,none⟩ (.slice (some ⟨w1.heap.size,0,none⟩) 1 1))):=((HB1.out.alloc HB1.out.size _).setCell (Nat.le_refl _) _).setCell (Nat.le_refl _) _;have c0:=HV2.out.c0;have c1:=HV2.out.c1;have f0:=HV2.out.f0;have f1:=HV2.out.f1;clear hk htop;go_wp2
   (try simp only[Exit.inBlock,Exit.then])
   exact bodyPost_ret (Cn Tryz.results164 _ _ _ rfl rfl (NW HV4.out.c0 HV4.out.c1)) rfl ⟨_,by rw[HTOP.out];rfl,by rw[HK0.out];exact HR5.out,HB4.out⟩
end
end
section
open Go.RowKit Go.Proofs
theorem Ch (x y:ByteArray):bl x y=true↔x.data.toList<y.data.toList:=by
 unfold bl;rw[bytesLess_eq,ByteArray.toList_eq,ByteArray.toList_eq];exact decide_eq_true_iff
theorem Ar (x:ByteArray):bl x x=false:=by
 cases h:bl x x
 ·rfl
 ·exact absurd ((Ch x x).1 h) (List.lt_irrefl _)
theorem Cw {x y z:ByteArray} (h1:bl x y=true) (h2:bl y z=true):bl x z=true:=
 (Ch x z).2 (List.lt_trans ((Ch x y).1 h1) ((Ch y z).1 h2))
theorem DW (x y:ByteArray):bl x y=true\/x=y\/bl y x=true:=by
 by_cases h:x.data.toList<y.data.toList
 ·exact .inl ((Ch x y).2 h)
 ·by_cases h2:y.data.toList<x.data.toList
  ·exact .inr (.inr ((Ch y x).2 h2))
  ·exact .inr (.inl (ByteArray.ext (Array.toList_inj.1 (List.le_antisymm (List.not_lt.1 h2) (List.not_lt.1 h)))))
def bg (x y:ByteArray):Bool:= !bl x y && !(x.toList == y.toList)
theorem LV (x y:ByteArray):bg x y=bl y x:=by
 unfold bg;rcases DW x y with h|rfl|h
 ·rw[h]
  cases h2:bl y x
  ·rfl
  ·have:=Cw h h2
   rw[Ar]at this;cases this
 ·rw[Ar];simp
 ·have h3:bl x y=false:=by
   cases h4:bl x y
   ·rfl
   ·have:=Cw h h4
    rw[Ar]at this;cases this
  rw[h3,h]
  have:(x.toList == y.toList)=false:=by
   cases h4:(x.toList == y.toList)
   ·rfl
   ·have:=BM h4
    subst this;rw[Ar]at h;cases h
  rw[this];rfl
end
section
open Go.RowKit
structure Pi (n:Nat) (p:Nat->Bool) (i:Nat):Prop where
 le:i<=n
 no:∀k,k<i->p k=false
 yes:∀k,i<=k->k<n->p k=true
set_option maxHeartbeats 1000000
theorem NC {fid:Nat} {caps:Array Value} (n:Nat) (hn:n<=100000) (p:Nat->Bool) (hm:∀i j,i<=j->j<n->p i=true->p j=true) (Inv:World->Prop) (eg:∀args w,(callFunc fid args).run Tryz.prog w= .ok (.enter fid args) w)
  (hcb:∀i (_:i<n) (w:World),Inv w->Calls Tryz.prog fid (#[.int .i64 (i:Nat)]++caps) w fun e w'=>e= .returned (.bool (p i))/\Inv w') (w:World) (h0:Inv w):
  Calls Tryz.prog 165 #[.int .i64 (n:Nat),.func (.func fid) #[] caps] w fun e w'=>∃i:Nat,e= .returned (.int .i64 (i:Nat))/\Pi n p i/\Inv w':=by
 have HI:Hid _:=h0;have HC:Hid _:=hcb;have HM:Hid _:=hm;clear h0 hcb hm;go_enter Tryz.func165,Tryz.ntmps165;go_wp2_with fail;go_loopw [5,6] (fun i j wr=>∃a b:Nat,a<=b/\b<=n/\i= .int .i64 (a:Nat)/\j= .int .i64 (b:Nat)/\Hid (∀k,k<a->p k=false)/\Hid (∀k,b<=k->k<n->p k=true)/\Hid (Inv wr)) (fun i j _=>(intOf j).toNat-(intOf i).toNat)
 case atStart=>exact⟨0,n,Nat.zero_le _,Nat.le_refl _,rfl,rfl,fun k hk=>absurd hk (Nat.not_lt_zero k),fun k h1 h2=>absurd h2 (by omega),HI⟩
 case round=>
  clear HI;obtain⟨a,b,hab,hbn,rfl,rfl,HL,HR,HI⟩:=hrel
  by_cases hlt:a<b
  ·have h1:(a:Int)<(b:Int):=by omega
   obtain⟨h,hh1,hh2,HH⟩:∃h:Nat,a<=h/\h<b/\Hid (((a:Int)+(b:Int)) / 2=(h:Nat)):=⟨(a+b) / 2,by omega,by omega,by show _=_;omega⟩;go_wp2_with fail;rw[HH.out];refine(HC.out h (by omega) _ HI.out).mono ?_;rintro _ w1 ⟨rfl,hI1⟩;have HI1:Hid _:=hI1;clear hI1 HI
   cases hp:p h
   ·have HL2:Hid (∀k,k<h+1->p k=false):=fun k hk=>by
     cases hpk:p k
     ·rfl
     ·exact absurd (HM.out k h (by omega) (by omega) hpk) (by rw[hp];decide)
    go_wp2_with fail;go_roundw
    case rel=>exact⟨h+1,b,by omega,hbn,by go_num,rfl,HL2,HR,HI1⟩
    case measure=>simp[intOf];omega
   ·have HR2:Hid (∀k,h<=k->k<n->p k=true):=fun k hk h2=>HM.out h k hk h2 hp
    go_wp2_with fail;go_roundw
    case rel=>exact⟨a,h,hh1,by omega,rfl,rfl,HL,HR2,HI1⟩
    case measure=>simp[intOf];omega
  ·have h1:¬(a:Int)<(b:Int):=by omega
   obtain rfl:a=b:=by omega
   go_wp2;go_ret;exact⟨a,rfl,⟨hbn,HL.out,HR.out⟩,HI.out⟩
end
end Go.Proofs.YtihnldkgeelehaaGreatDoor
