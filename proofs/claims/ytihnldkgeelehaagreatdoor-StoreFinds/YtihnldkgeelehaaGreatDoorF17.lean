/- StoreFinds: part 17. -/
import Derived.Test.YtihnldkgeelehaaGreatDoorF16
import Derived.Shelf.Strings.Prefix
import Derived.Deep.LoopGhost
import Derived.Lib.Bytealg
import Derived.Lib.IndexMore
set_option maxRecDepth 100000
set_option maxHeartbeats 4000000
namespace Go.Proofs.YtihnldkgeelehaaGreatDoor
section
open Go.RowKit Go.Maps
theorem O1 (x:Pr):x.bytes=Al [x]:=by
 unfold Pr.bytes Al C5 C5;rw[List.append_nil]
def VO (bp bd bm N r:Nat) (s:St) (up:Nat->Bool) (cm:Int) (V:Pst) (T:Tr) (key:ByteArray) (nw:List Pr) (w:World) (e:Ending) (w':World):Prop:=
 ∃A mid C,VS T key A mid C/\En bp bd bm N r s up cm V T A nw C w e w'
theorem Cj.six {B:Nat} {a b c d e f:Value} {w:World} (h:Cj B [a,b,c,d,e,f] w):w.cell? ⟨B,0,none⟩=some a/\w.cell? ⟨B,1,none⟩=some b/\w.cell? ⟨B,2,none⟩=some c/\w.cell? ⟨B,3,none⟩=some d/\w.cell? ⟨B,4,none⟩=some e/\w.cell? ⟨B,5,none⟩=some f:=
 ⟨h.cell 0 (by simp),h.cell 1 (by simp),h.cell 2 (by simp),h.cell 3 (by simp),h.cell 4 (by simp),h.cell 5 (by simp)⟩
section
variable {bt bp bd bm N r:Nat} {s:St} {up:Nat->Bool} {cm:Int} {V:Pst} {w:World}
theorem En.from {T:Tr} {A nw C:List Pr} {w0 w:World} {e:Ending} {w':World} (h:En bp bd bm N r s up cm V T A nw C w e w') (hb:Below w0.heap.size w0 w):En bp bd bm N r s up cm V T A nw C w0 e w':=by
 rcases h with⟨h1,h2,h3⟩|⟨h1,h2,V',N',T',h3,h4,h5,h6,h7⟩
 ·exact .inl ⟨h1,h2,hb.trans (h3.mono hb.size)⟩
 ·exact .inr ⟨h1,h2,V',N',T',h3,h4,h5,h6,(Ab hb _).trans h7 (fun _ e=> .inl e)⟩
theorem En.block {T:Tr} {A nw C:List Pr} {w:World} {e:Ending} {w':World} (h:En bp bd bm N r s up cm V T A nw C w e w') {B:Nat} (hB:B<w.heap.size) (h1:B≠bp) (h2:B≠bm):w'.heap[B]? =w.heap[B]? :=by
 rcases h with⟨_,_,h3⟩|⟨_,_,V',N',T',_,_,_,_,h7⟩
 ·exact h3.block B hB
 ·exact h7.block B hB (fun e=>by rcases e with e|e;exact h1 e;exact h2 e)
theorem En.ret {T:Tr} {A nw C:List Pr} {w:World} {e:Ending} {w':World} (h:En bp bd bm N r s up cm V T A nw C w e w'):∃u,e= .returned u:=by
 rcases h with⟨_,h2,_⟩|⟨_,h2,_⟩
 ·exact⟨_,h2⟩
 ·exact⟨_,h2⟩
theorem El.inLs {T:Tr} {key txt:ByteArray} {l a b:Nat} (h:El T key l txt a b):l<T.Ls.length\/(T.Ls=[]/\l=0):=by
 rcases h with⟨h1,h2,_⟩|h
 ·exact .inr ⟨h1,h2⟩
 ·exact .inl h.lt
set_option maxHeartbeats 1000000
theorem OH (hT:Tt bt bp r w) (h:Tw bp bd bm N s up cm V w) (hne:bt≠bp/\bt≠bm) {T:Tr} (hA:Ck V r T) (x:Pr) (hx:x.Ok) (hcnt:A1 V.used 2000+30<1999) (hN:N+60<1000000):
  Calls Tryz.prog 69 #[.pointer (some ⟨bt,0,none⟩),.string x.k,.string x.i] w fun e w'=>VO bp bd bm N r s up cm V T x.k [x] w e w':=by
 obtain⟨key,item⟩:=x;obtain⟨hx1,hx2,hx3⟩:=hx;simp only at hx1 hx2 hx3 ⊢;have HA:Hid _:=hA;have HT:Hid _:=hT;have HW:Hid _:=h;have hlt:=h.lt;have hltt:=hT.lt;have i1:¬(60:Int)<(key.size:Int):=by omega
 have i2:¬(100:Int)<(item.size:Int):=by omega
 have i3:¬key.toList=[]:=fun e=>by
  rw[ByteArray.toList_eq]at e;have:=congrArg List.length e;rw[Array.length_toList]at this;exact absurd this (by show key.size≠0;omega)
 have i4:key.toList.isEmpty=false:=by
  cases e:key.toList with
  |nil=>exact absurd e i3
  |cons a b=>rfl
 clear hA hT h;go_enter Tryz.func69,Tryz.ntmps69;go_wp2_with fail;refine(Gq HT.out HW.out HA.out key).mono ?_;rintro _ w1 ⟨v,l,txt,a,b,rfl,hs,hv1,hb1⟩;obtain⟨a9,cap9,hv9,_⟩:=hv1.is;generalize hn9:(At T.ks).length=n9 at hv9;subst hv9;have HS:Hid (El T key l txt a b):=hs;have HV1:Hid (Ao w.heap.size (.slice a9 n9 cap9) (At T.ks) w1):=hv1;have HB1:Hid (Below w.heap.size w w1):=hb1;obtain⟨W2,hW2⟩:∃W2,w1.alloc (.cells #[.int .i64 (T.top:Nat),.slice a9 n9 cap9,.int .i64 (l:Nat),.string txt,.int .i64 (a:Nat),.int .i64 (b:Nat)] 204)=W2:=⟨_,rfl⟩;have hb2:Below w1.heap.size w1 W2:=by rw[<-hW2];exact(Below.refl _ w1).alloc (Nat.le_refl _) _
 have HV6:Hid (Cj w1.heap.size [.int .i64 (T.top:Nat),.slice a9 n9 cap9,.int .i64 (l:Nat),.string txt,.int .i64 (a:Nat),.int .i64 (b:Nat)] W2.drew):=by rw[<-hW2];exact(Cj.new6 w1 _ _ _ _ _ _ 204).below (Below.refl _ _).drew
 have HB2:Hid (Below w.heap.size w W2.drew):=(hb1.trans (hb2.mono hb1.size)).drew;have HBX:Hid (Below w1.heap.size w1 W2.drew):=hb2.drew;clear hs hv1 hb1 hb2 hn9 i3 i4;go_wp2_with fail
 go_region_held3 (fun wx=>wx.cell? ⟨w1.heap.size,0,none⟩=some (.int .i64 (T.top:Nat))/\wx.cell? ⟨w1.heap.size,1,none⟩=some (.slice a9 n9 cap9)/\wx.cell? ⟨w1.heap.size,2,none⟩=some (.int .i64 (l:Nat))/\wx.cell? ⟨w1.heap.size,3,none⟩=some (.string txt)/\wx.cell? ⟨w1.heap.size,4,none⟩=some (.int .i64 (a:Nat))/\wx.cell? ⟨w1.heap.size,5,none⟩=some (.int .i64 (b:Nat))) (first|exact HV6.out.six|exact HV63.out.six|exact HV64.out.six) (first|(go_at_call 124;refine(JM ⟨key,item⟩ ⟨hx1,hx2,hx3⟩ _).mono ?_;rintro _ w3 ⟨rfl,hb3⟩;rw[O1];have HB3:Hid (Below W2.drew.heap.size W2.drew w3):=hb3;have HV63:Hid (Cj w1.heap.size [.int .i64 (T.top:Nat),.slice a9 n9 cap9,.int .i64 (l:Nat),.string txt,.int .i64 (a:Nat),.int .i64 (b:Nat)] w3):=HV6.out.below hb3;clear hb3)|(go_at_call 123;obtain⟨A,mid,C,hsa⟩:=El.all HS.out HA.out.ok;have HBW:Hid (Below w.heap.size w w3):=HB2.out.trans (HB3.out.mono HB2.out.size);have HB13:Hid (Below w1.heap.size w1 w3):=HBX.out.trans (HB3.out.mono HBX.out.size);refine(JE (HT.out.below HBW.out) (HW.out.below HBW.out) hne HA.out (HV1.out.below HB13.out) ⟨by omega,by omega⟩ hsa (El.inLs HS.out) (.inr ⟨_,rfl,rfl⟩) (fun y hy=>by obtain rfl:=List.mem_singleton.1 hy;exact⟨hx1,hx2,hx3⟩) hcnt hN).mono ?_;rintro e4 w4 hc4;have HC4:Hid (En bp bd bm N r s up cm V T A [⟨key,item⟩] C w e4 w4):=hc4.from HBW.out;have HV64:Hid (Cj w1.heap.size [.int .i64 (T.top:Nat),.slice a9 n9 cap9,.int .i64 (l:Nat),.string txt,.int .i64 (a:Nat),.int .i64 (b:Nat)] w4):=HV63.out.block (hc4.block (by have:=HV63.out.lt;omega) (by have:=HB1.out.size;omega) (by have:=HB1.out.size;omega));have HCR:Hid _:=hsa.chg;obtain⟨u4,he4⟩:=hc4.ret;subst he4;clear hc4 hsa))
 go_wp2;go_ret;exact⟨A,mid,C,HCR.out,HC4.out⟩
def Vr (bp bd bm N r:Nat) (s:St) (up:Nat->Bool) (cm:Int) (V:Pst) (T:Tr) (key:ByteArray) (w:World) (e:Ending) (w':World):Prop:=
 ((∀x∈T.all,x.k≠key)/\e= .returned (.iface 101 (.int .i64 7))/\Below w.heap.size w w')\/
 ∃A y C,T.all=A++[y]++C/\y.k=key/\En bp bd bm N r s up cm V T A [] C w e w'
theorem J6 (hT:Tt bt bp r w) (h:Tw bp bd bm N s up cm V w) (hne:bt≠bp/\bt≠bm) {T:Tr} (hA:Ck V r T) (key:ByteArray) (hcnt:A1 V.used 2000+30<1999) (hN:N+60<1000000):
  Calls Tryz.prog 79 #[.pointer (some ⟨bt,0,none⟩),.string key] w fun e w'=>Vr bp bd bm N r s up cm V T key w e w':=by
 have HA:Hid _:=hA;have HT:Hid _:=hT;have HW:Hid _:=h;have hlt:=h.lt;have hltt:=hT.lt;clear hA hT h;go_enter Tryz.func79,Tryz.ntmps79;go_wp2_with fail;refine(Gq HT.out HW.out HA.out key).mono ?_;rintro _ w1 ⟨v,l,txt,a,b,rfl,hs,hv1,hb1⟩;obtain⟨a9,cap9,hv9,_⟩:=hv1.is;generalize hn9:(At T.ks).length=n9 at hv9;subst hv9;obtain⟨A,mid,C,hsa⟩:=El.all hs HA.out.ok;have HSA:Hid _:=hsa;have HS:Hid (El T key l txt a b):=hs;have HV1:Hid (Ao w.heap.size (.slice a9 n9 cap9) (At T.ks) w1):=hv1;have HB1:Hid (Below w.heap.size w w1):=hb1;obtain⟨W2,hW2⟩:∃W2,w1.alloc (.cells #[.int .i64 (T.top:Nat),.slice a9 n9 cap9,.int .i64 (l:Nat),.string txt,.int .i64 (a:Nat),.int .i64 (b:Nat)] 204)=W2:=⟨_,rfl⟩;have hb2:Below w1.heap.size w1 W2:=by rw[<-hW2];exact(Below.refl _ w1).alloc (Nat.le_refl _) _
 have HV6:Hid (Cj w1.heap.size [.int .i64 (T.top:Nat),.slice a9 n9 cap9,.int .i64 (l:Nat),.string txt,.int .i64 (a:Nat),.int .i64 (b:Nat)] W2):=by rw[<-hW2];exact Cj.new6 w1 _ _ _ _ _ _ 204
 have HBX:Hid (Below w1.heap.size w1 W2):=hb2;clear hs hv1 hb1 hb2 hn9 hsa;have q6:=HV6.out.six;obtain⟨q0,q1,q2,q3,q4,q5⟩:=q6;go_wp2_with fail;refine(Kn _ _ _ _ _ _ _).mono ?_;rintro _ w3 ⟨rfl,hb3⟩;have HV63:Hid (Cj w1.heap.size [.int .i64 (T.top:Nat),.slice a9 n9 cap9,.int .i64 (l:Nat),.string txt,.int .i64 (a:Nat),.int .i64 (b:Nat)] w3):=HV6.out.below hb3;have HB13:Hid (Below w1.heap.size w1 w3):=HBX.out.trans (hb3.mono HBX.out.size);have HBW:Hid (Below w.heap.size w w3):=HB1.out.trans (HB13.out.mono HB1.out.size);clear hb3 hW2 q0 q1 q2 q3 q4 q5
 by_cases hab:a<b
 ·have e1:(decide ((a:Int)<(b:Int)))=true:=decide_eq_true (by omega)
  rw[e1];have q6:=HV63.out.six;obtain⟨q0,q1,q2,q3,q4,q5⟩:=q6
  have HMID:Hid (∃y,mid=[y]/\y.k=key):=by
   rcases HSA.out.chg.mid_ with e|e
   ·have:=HSA.out.ab
    rw[e]at this;simp[szL]at this;omega
   ·exact e
  clear e1 hab;go_wp2_with fail;refine(JE (nw:=[]) (HT.out.below HBW.out) (HW.out.below HBW.out) hne HA.out (HV1.out.below HB13.out) ⟨by omega,by omega⟩ HSA.out (El.inLs HS.out) (.inl rfl) (fun y hy=>by simp at hy) hcnt hN).mono ?_;rintro e4 w4 hc4;have HC4:Hid (En bp bd bm N r s up cm V T A [] C w e4 w4):=hc4.from HBW.out;obtain⟨u4,he4⟩:=hc4.ret;subst he4;clear hc4 q0 q1 q2 q3 q4 q5;go_wp2;go_ret;obtain⟨y,hy1,hy2⟩:=HMID.out;exact .inr ⟨A,y,C,by rw[<-hy1];exact HSA.out.chg.all,hy2,HC4.out⟩
 ·have e1:(decide ((a:Int)<(b:Int)))=false:=decide_eq_false (by omega)
  rw[e1]
  have HNO:Hid (∀x∈T.all,x.k≠key):=by
   intro x hx;rw[HSA.out.chg.all]at hx
   have hm:mid=[]:=by
    have:=HSA.out.ab;exact Mk (by omega)
   rw[hm,List.append_nil]at hx;rcases List.mem_append.1 hx with hx|hx
   ·exact Ih (HSA.out.chg.less x hx)
   ·exact fun e=>Ih (HSA.out.chg.more x hx) e.symm
  clear e1 hab;go_wp2;go_ret;exact .inl ⟨HNO.out,rfl,HBW.out⟩
end
theorem Uz:(sizeOf 126).run Tryz.prog=fun w=> .ok 2 w:=by funext w;simp[Tryz.sizeOf126]
theorem Vd:Tryz.prog.elem 97=126:=by kernel_rfl
theorem Qj {t e:TypeId} (ht:Tryz.prog.underlying t=some (.slice e)) (he:Tryz.prog.elem t=e) (hs:(sizeOf e).run Tryz.prog=fun w=> .ok 2 w) (g n cap i:Nat) (hi:i<n) (wx:World):(Instr.indexAt t (.slice (some ⟨g,0,none⟩) n cap) (.int .i64 (i:Nat))).run Tryz.prog wx= .ok (.pointer (some ⟨g,2 * i,none⟩)) wx:=by
 subst he;rw[run_indexAt_slice (h:=ht),if_pos ⟨by omega,by omega⟩,hs];simp[Result.andThen,A6,Nat.mul_comm]
theorem BU.at {B:Nat} {v:Value} {ps:List Pr} {w:World} (h:BU B v ps w) {i:Nat} (hi:i<ps.length):∃g,B<=g/\w.cell? ⟨g,2 * i,none⟩=some (.string ps[i].k)/\w.cell? ⟨g,2 * i+1,none⟩=some (.string ps[i].i)/\
  ∀wx,(Instr.indexAt 97 v (.int .i64 (i:Nat))).run Tryz.prog wx= .ok (.pointer (some ⟨g,2 * i,none⟩)) wx:=by
 obtain⟨g,cap,rfl,h1,h2⟩:=World.ownsRow.form h (by omega)
 have hfl:∀(l:List Pr) (i:Nat) (hi:i<l.length),(l.flatMap OM)[2 * i]? =some (.string l[i].k)/\(l.flatMap OM)[2 * i+1]? =some (.string l[i].i):=by
  intro l
  induction l with
  |nil=>intro i hi;simp at hi
  |cons x r ih=>
   intro i hi
   cases i with
   |zero=>exact⟨rfl,rfl⟩
   |succ i=>
    have:=ih i (by simpa using hi);rw[List.flatMap_cons];show([_,_]++_)[2 * (i+1)]? =_/\([_,_]++_)[2 * (i+1)+1]? =_;rw[show 2 * (i+1)=(2 * i)+1+1 by omega];exact this
 have h3:=hfl ps i hi;refine⟨g,h1,?_,?_,fun wx=> ?_⟩
 ·have:=h.cells (g:=g) rfl (2 * i) _ h3.1
  rwa [A6,Nat.zero_add]at this
 ·have:=h.cells (g:=g) rfl (2 * i+1) _ h3.2
  rwa [A6,Nat.zero_add]at this
 ·exact Qj Tryz.underlying97 Vd Uz g ps.length cap i hi wx
theorem Ep {P:Program} {md:Region.Mode} {ops:Array Oper} {Q:Exit->Act->World->Prop} {S S':World->Prop} (hS:∀w,S' w->S w):∀(fuel:Nat) (listed:Array Bool) (a:Act) (w:World),wpAnyH P md ops Q S' fuel listed a w->wpAnyH P md ops Q S fuel listed a w
 |0,_,_,_,h=>h
 |fuel+1,_,_,_,h=>⟨h.1,fun i hi=>wpOp_mono (fun a' w' h'=>⟨hS w' h'.1,Ep hS fuel _ a' w' h'.2⟩) (h.2 i hi)⟩
section
variable {bt bp bd bm N r:Nat} {s:St} {up:Nat->Bool} {cm:Int} {V:Pst} {w:World}
end
section
variable {V V' V'':Pst} {r:Nat} {T T' T'':Tr}
theorem Ck.used_pg (h:Ck V r T):∀k∈T.pgL,V.used k=true/\0<k/\k<2000:=fun k hk=>by
 unfold Tr.pgL at hk;rcases List.mem_append.1 hk with hk|hk
 ·by_cases h0:T.top=0
  ·rw[if_pos h0]at hk;simp at hk
  ·rw[if_neg h0]at hk
   obtain rfl:=List.mem_singleton.1 hk;have:=h.ltop h0;exact⟨this.2.1,by omega,this.1⟩
 ·have:=h.low k hk
  exact⟨this.2.2,this.1,this.2.1⟩
theorem Ck.pg_len (h:Ck V r T):T.pgL.length=T.pages:=by
 unfold Tr.pgL Tr.pages;rw[List.length_append,h.len]
 by_cases h0:T.top=0
 ·rw[if_pos h0,if_pos (h.top0.1 h0)];simp
 ·rw[if_neg h0,if_neg (fun e=>h0 (h.top0.2 e))]
  show 1+_=_;omega
theorem Ck.pages_le (h:Ck V r T):T.pages<=60:=by
 have:=h.ok.len;unfold Tr.pages;split<;>omega
theorem Ck.keep (h:Ck V r T) (hu:∀k∈T.pgL,V'.used k=true/\V'.tx k=V.tx k) (hrp:V'.rp r=V.rp r) (hrn:V'.rn r=V.rn r):Ck V' r T:=by
 have hk:∀k∈T.ks,k∈T.pgL:=fun k hk=>List.mem_append.2 (.inr hk);refine⟨h.len,h.ok,by rw[hrn];exact h.rn,by rw[hrp];exact h.rp,h.top0,fun h0=> ?_,fun k hkk=> ?_,fun i hi hl=> ?_,h.nodup⟩
 ·have hm:T.top∈T.pgL:=List.mem_append.2 (.inl (by rw[if_neg h0];simp))
  obtain⟨h1,h2,h3,h4⟩:=h.ltop h0;exact⟨h1,(hu _ hm).1,by rw[(hu _ hm).2];exact h3,h4⟩
 ·have:=h.low k hkk
  exact⟨this.1,this.2.1,(hu k (hk k hkk)).1⟩
 ·rw[(hu _ (hk _ (List.getElem_mem hi))).2]
  exact h.page i hi hl
theorem LP {f g:Nat->Bool} {n:Nat}:∀(L:List Nat),(∀k,f k=true->g k=true\/k∈L)->A1 f n<=A1 g n+L.length:=by
 intro L
 induction L generalizing g with
 |nil=>
  intro h
  have:∀n,A1 f n<=A1 g n:=by
   intro n
   induction n with
   |zero=>exact Nat.le_refl _
   |succ n ih=>
    rw[A1,A1]
    cases e:f n
    ·simp only[Bool.false_eq_true,if_false];omega
    ·rcases h n e with h1|h1
     ·rw[h1];omega
     ·simp at h1
  exact this n
 |cons x L ih=>
  intro h
  have h1:=ih (g:=fun i=>if i=x then true else g i) (fun k hk=>by
   show(if k=x then true else g k)=true\/_
   by_cases e:k=x
   ·rw[if_pos e];exact .inl rfl
   ·rw[if_neg e]
    rcases h k hk with h2|h2
    ·exact .inl h2
    ·rcases List.mem_cons.1 h2 with h3|h3
     ·exact absurd h3 e
     ·exact .inr h3)
  have h2:=Gb g x n;rw[List.length_cons];omega
end
def Pg.pst (p:Pg) (pg:Nat->ByteArray):Pst:=⟨p.used,p.text pg,p.rp,p.rn⟩
theorem CU.self (p:Pg) (pg:Nat->ByteArray):CU p pg (p.pst pg):=⟨rfl,fun _ _ _=>rfl,fun _ _=>rfl,fun _ _=>rfl⟩
def sd0:St:=⟨fun _=>CR,false,0,0⟩
theorem I7 (k:Nat):CR.data.toList.getD k 0=0:=by
 have h:CR.data.toList=List.replicate 1024 0:=by
  unfold CR;simp
 rw[h,List.getD_eq_getElem?_getD,List.getElem?_replicate];split<;>rfl
theorem Rm:Ce sd0.pg=CR:=rfl
theorem Rl (c:Int) (d:Bool) (k:Nat):(GZ sd0.pg c d).used k=false:=by
 show AX (Ce sd0.pg) k=false;rw[Rm];unfold AX BO;rw[I7];simp
theorem KE (i:Nat):EM CR i=0:=by
 unfold EM;rw[I7,I7];rfl
def Tr.none:Tr:=⟨0,[],[]⟩
theorem Sj {V:Pst} {r:Nat} (h1:V.rp r=0) (h2:V.rn r=0):Ck V r Tr.none:=
 ⟨rfl,⟨by simp[Tr.none],by simp[Tr.none],by simp[Tr.none],fun i hi=>absurd hi (by simp[Tr.none]),Nat.zero_le _,List.Pairwise.nil⟩,h2,h1,⟨fun _=>by simp[Tr.none],fun _=>rfl⟩,fun h=>absurd rfl h,by simp[Tr.none],fun i hi=>absurd hi (by simp[Tr.none]),List.nodup_nil⟩
section
variable {bp bd bm N:Nat} {s:St} {up:Nat->Bool} {cm:Int} {V:Pst} {w:World}
theorem RA (w:World):Calls Tryz.prog 20 #[.pointer (some ⟨w.heap.size,0,none⟩)] (w.alloc (.cells Tryz.zeroCells78 78)) fun e w'=>∃bp bm up V,e= .returned (.tuple #[.pointer (some ⟨bp,0,none⟩),.nilIface])/\w.heap.size<bp/\w.heap.size<bm/\bp≠bm/\Tw bp w.heap.size bm 0 sd0 up 1 V w'/\(∀k,V.used k=false)/\(∀i,i<8->Ck V i Tr.none)/\Below w.heap.size w w':=by
 refine(RB (So w)).mono ?_;rintro _ w1 ⟨bp,bm,rfl,h1,h2,h3,h4,h5⟩;rw[World.size_alloc]at h1 h2;refine⟨bp,bm,_,(GZ sd0.pg 1 false).pst sd0.pg,rfl,h1,h2,fun e=>h3.ne e.symm,⟨⟨_,h3,Qb _ _ _,rfl,rfl,rfl,CU.self _ _⟩,h4⟩,fun k=>Rl 1 false k,fun i hi=>Sj ?_ ?_,((Below.refl _ w).alloc (Nat.le_refl _) _).trans (h5.mono (by simp))⟩
 ·exact KE _
 ·exact KE _
end
section
variable {bt bp bd bm N r:Nat} {s:St} {up:Nat->Bool} {cm:Int} {V:Pst}
def pfx (s:ByteArray) (_:Nat) (key:ByteArray):Bool:=Lib.hasPrefix key.data.toList s.data.toList
theorem JY (a b:ByteArray) (w:World):Calls Tryz.prog 66 #[.string a,.string b] w fun e w'=>e= .returned (.bool (Lib.hasPrefix a.data.toList b.data.toList))/\w'=w:=Go.Proofs.Any.strings_HasPrefix Tryz.lays99 a b w
theorem PJ {B:Nat} {s:ByteArray} (w:World) (h:Ai B (.string s) w) (key:ByteArray) (k:Nat):
  Calls Tryz.prog 65 #[.string key,.pointer (some ⟨B,0,none⟩)] w fun e w'=>e= .returned (.bool (pfx s k key))/\w'=w:=by
 have c0:=h.cell;clear h;go_enter Tryz.func65,Tryz.ntmps65;go_wp2_with fail;refine(JY key s w).mono ?_;rintro _ w9 ⟨rfl,h9⟩;obtain rfl:=h9.symm;clear h9;go_wp2;go_ret;exact⟨rfl,rfl⟩
theorem ED (w:World) (hT:Tt bt bp r w) (h:Tw bp bd bm N s up cm V w) {T:Tr} (hA:Ck V r T) (from_:ByteArray):
  Calls Tryz.prog 26 #[.pointer (some ⟨bt,0,none⟩),.string from_] w fun e w'=>∃v,e= .returned (.tuple #[v,.nilIface])/\BU w.heap.size v (Bd (pfx from_) from_ 0 T.all) w'/\Below w.heap.size w w':=by
 have HA:Hid _:=hA;have hB0:Below w.heap.size w (w.alloc (.cells #[.string from_] 9)):=(Below.refl _ w).alloc (Nat.le_refl _) _;have HT0:Hid _:=hT.below hB0;have HW0:Hid _:=h.below hB0;have HB0:Hid (Below w.heap.size w (w.alloc (.cells #[.string from_] 9))):=hB0;have hmf:∀(fn:Fn) (first cap:Array Value) (w:World),(Instr.makeFunc fn first cap).run Tryz.prog w= .ok (.func fn first cap) w:=fun _ _ _ _=>rfl;have HO1:Hid (Ai w.heap.size (.string from_) (w.alloc (.cells #[.string from_] 9))):=Ai.new w (.string from_) 9;have hltt:=hT.lt;have hltw:=h.lt;have q0:=(Ai.new w (.string from_) 9).cell;clear hA hT h hB0;go_enter Tryz.func26,Tryz.ntmps26;go_wp2_with fail
 refine(Ni (wnt:=pfx from_) (I:=fun _ wx=>Ai w.heap.size (.string from_) wx) (W:=fun _=>False) _ HT0.out HW0.out HA.out from_ (fun b hb=>hb.elim) (enters_of Tryz.func65 (by kernel_rfl) rfl)
  HO1.out (fun k wx wy hh ho=>hh.only ho (by simp only[World.size_alloc];omega)) (fun k key wx hk hh=> ?_)).mono ?_
 ·refine(PJ wx hh key k).mono ?_
  rintro _ w' ⟨rfl,rfl⟩;exact⟨rfl,hh,Aa.refl _ _⟩
 rintro _ w2 ⟨v,rfl,hR,hO⟩;have HR2:Hid (BU w.heap.size v (Bd (pfx from_) from_ 0 T.all) w2):=AE hR (by simp);have HB2:Hid (Below w.heap.size w w2):=Aa.below HB0.out hO (by simp) (fun i hi=>hi.elim);clear hR hO;go_wp2;go_ret2;exact⟨_,rfl,HR2.out,HB2.out⟩
end
section
variable {bt bp bd bm N D r:Nat} {s:St} {up:Nat->Bool} {cm:Int} {V:Pst} {w:World} {T:Tr}
end
section
variable {V V':Pst} {r:Nat} {T T':Tr}
end
section
variable {bt bp bd bm N D r:Nat} {s:St} {up:Nat->Bool} {cm:Int} {V:Pst} {w:World} {T:Tr}
end
theorem Ku {A A' C C':List Pr} {y y':Pr} (h:A++[y]++C=A'++[y']++C') (hs:(A++[y]++C).Pairwise (fun a b=>bl a.k b.k=true)) (hk:y.k=y'.k):A=A'/\y=y'/\C=C':=by
 have g1:(A++[y]++C)[A.length]? =some y:=by simp
 have g2:(A++[y]++C)[A'.length]? =some y':=by rw[h];simp
 obtain⟨l1,e1⟩:=List.getElem?_eq_some_iff.1 g1;obtain⟨l2,e2⟩:=List.getElem?_eq_some_iff.1 g2
 have hl:A.length=A'.length:=by
  rcases Nat.lt_trichotomy A.length A'.length with e|e|e
  ·have:=List.pairwise_iff_getElem.1 hs _ _ l1 l2 e
   rw[e1,e2,hk,Ar]at this;cases this
  ·exact e
  ·have:=List.pairwise_iff_getElem.1 hs _ _ l2 l1 e
   rw[e1,e2,hk,Ar]at this;cases this
 rw[List.append_assoc,List.append_assoc]at h;obtain⟨h1,h2⟩:=List.append_inj h hl;simp only[List.singleton_append,List.cons.injEq]at h2;exact⟨h1,h2.1,h2.2⟩
section
variable {bt bp bd bm N D:Nat} {up:Nat->Bool} {V:Pst} {T:Tr} {w0 w w':World}
end
theorem Dk (x y:ByteArray) (h:x.size+y.size<=140737488360000):Op.stringOp .add x y=pure (.string (x++y)):=by
 have hn:¬(((x.size+y.size:Nat):Int) > IntKind.i64.max):=by
  have:IntKind.i64.max=9223372036854775807:=by decide
  omega
 simp only[Op.stringOp,if_neg hn]
theorem GP {s:ByteArray} (h:s.size=0):s=⟨#[]⟩:=by
 cases s with
 |mk d=>congr;exact Array.eq_empty_of_size_eq_zero h
theorem CL:∀(l:List UInt8) (c:UInt8),(0<=Lib.indexByte l c↔c∈l)/\ -1<=Lib.indexByte l c
 | [],c=>by simp[Lib.indexByte]
 |b::l,c=>by
  have ih:=CL l c;unfold Lib.indexByte
  by_cases h:b=c
  ·subst h;simp
  ·have hb:(b == c)=false:=by simpa using h
   rw[hb];simp only[Bool.false_eq_true,if_false,beq_iff_eq,List.mem_cons]
   by_cases h1:Lib.indexByte l c= -1
   ·rw[if_pos h1]
    refine⟨⟨fun h=>absurd h (by decide),fun hm=> ?_⟩,by decide⟩;rcases hm with hm|hm
    ·exact absurd hm.symm h
    ·have:=ih.1.2 hm;omega
   ·rw[if_neg h1]
    have h2:=ih.2;refine⟨⟨fun _=> .inr (ih.1.1 (by omega)),fun _=>by omega⟩,by omega⟩
theorem BG {n:Nat} (h:n<256):(Aq (n:Int)).toNat=n:=by
 have:=AS (n:Int);rw[Fr,Int.emod_eq_of_lt (by omega) (by omega)]at this;omega
theorem Dd {i:Nat} (h:i<255):(Aq ((i:Int)+1)).toNat=i+1:=BG (n:=i+1) (by omega)
theorem S6 {i:Nat} (h:i<255):Aq ((i:Int)+1)≠0:=fun e=>by
 have:=Dd h;rw[e]at this;simp at this
theorem Iv:∀(a b:List UInt8),a<b->(0:UInt8)∉b->∀x y,a++0::x<b++0::y
 | [],[],h,_,_,_=>absurd h (List.lt_irrefl _)
 | [],c::b,_,h0,x,y=>by
   simp only[List.nil_append,List.cons_append];rw[List.cons_lt_cons_iff];refine .inl ?_;have:c≠0:=fun e=>h0 (by rw[e];simp);rw[UInt8.lt_iff_toNat_lt];have h2:c.toNat≠0:=fun e=>this (UInt8.toNat_inj.1 (by rw[e];rfl));show(0:UInt8).toNat<_;have:(0:UInt8).toNat=0:=rfl;omega
 |a::al,[],h,_,_,_=>absurd h (List.not_lt_nil _)
 |a::al,b::bs,h,h0,x,y=>by
  simp only[List.cons_append];rw[List.cons_lt_cons_iff]at h ⊢;rcases h with h|⟨rfl,h⟩
  ·exact .inl h
  ·exact .inr ⟨rfl,Iv al bs h (fun e=>h0 (by simp[e])) x y⟩
theorem M9:∀(n m x:List UInt8),(0:UInt8)∉m->(0:UInt8)∉x->(n++[0]).isPrefixOf (m++0::x)=true->n=m
 | [],[],_,_,_,_=>rfl
 | [],c::m,x,h0,_,h=>by
   simp[List.isPrefixOf]at h;exact absurd h (fun e=>h0 (by rw[<-e];simp))
 |b::n,[],x,_,hx,h=>by
  simp only[List.nil_append,List.cons_append,List.isPrefixOf,Bool.and_eq_true]at h;have h2:=List.isPrefixOf_iff_prefix.1 h.2;exact absurd (h2.subset (by simp)) hx
 |b::n,c::m,x,h0,hx,h=>by
  simp only[List.cons_append,List.isPrefixOf,Bool.and_eq_true,beq_iff_eq]at h;rw[h.1,M9 n m x (fun e=>h0 (by simp[e])) hx h.2]
theorem Jf:∀(a x:List UInt8),a.isPrefixOf (a++x)=true:=fun a x=>List.isPrefixOf_iff_prefix.2 (List.prefix_append a x)
theorem De:∀(a x y:List UInt8),x<y->a++x<a++y
 | [],_,_,h=>h
 |c::a,x,y,h=>by
  simp only[List.cons_append];rw[List.cons_lt_cons_iff];exact .inr ⟨rfl,De a x y h⟩
theorem Np {x y:ByteArray} (h:bl x y=true):bl y x=false:=by
 cases h2:bl y x
 ·rfl
 ·have:=Cw h h2
  rw[Ar]at this;cases this
theorem EA:∀(a b:List Pr),a.Pairwise (fun a b=>bl a.k b.k=true)->b.Pairwise (fun a b=>bl a.k b.k=true)->(∀x,x∈a↔x∈b)->a=b
 | [],[],_,_,_=>rfl
 | [],y::b,_,_,h=>absurd ((h y).2 (by simp)) (by simp)
 |x::a,[],_,_,h=>absurd ((h x).1 (by simp)) (by simp)
 |x::a,y::b,ha,hb,h=>by
  rw[List.pairwise_cons]at ha hb
  have hxy:x=y:=by
   rcases List.mem_cons.1 ((h x).1 (by simp))with e|h1
   ·exact e
   ·rcases List.mem_cons.1 ((h y).2 (by simp))with e|h2
    ·exact e.symm
    ·have e1:=hb.1 x h1
     have e2:=ha.1 y h2;rw[Np e1]at e2;cases e2
  subst hxy;rw[EA a b ha.2 hb.2 (fun z=> ?_)];constructor
  ·intro hz
   rcases List.mem_cons.1 ((h z).1 (by simp[hz]))with e|h1
   ·have:=ha.1 z hz
    rw[e,Ar]at this;cases this
   ·exact h1
  ·intro hz
   rcases List.mem_cons.1 ((h z).2 (by simp[hz]))with e|h1
   ·have:=hb.1 z hz
    rw[e,Ar]at this;cases this
   ·exact h1
theorem Je:∀(p a b:List UInt8),¬a<p->a<b->p.isPrefixOf b=true->p.isPrefixOf a=true
 | [],a,b,_,_,_=>rfl
 |x::p,[],b,h1,_,_=>absurd (List.nil_lt_cons x p) h1
 |x::p,y::a,[],_,h2,_=>absurd h2 (List.not_lt_nil _)
 |x::p,y::a,z::b,h1,h2,h3=>by
  simp only[List.isPrefixOf,Bool.and_eq_true,beq_iff_eq]at h3 ⊢;obtain⟨rfl,h3⟩:=h3;rw[List.cons_lt_cons_iff]at h1 h2;rcases h2 with h2|⟨rfl,h2⟩
  ·exact absurd (.inl h2) h1
  ·exact⟨rfl,Je p a b (fun h=>h1 (.inr ⟨rfl,h⟩)) h2 h3⟩
theorem FD:∀(p a:List UInt8),p.isPrefixOf a=true->¬a<p
 | [],a,_=>List.not_lt_nil _
 |x::p,[],h=>by simp[List.isPrefixOf]at h
 |x::p,y::a,h=>by
  simp only[List.isPrefixOf,Bool.and_eq_true,beq_iff_eq]at h;obtain⟨rfl,h⟩:=h;rw[List.cons_lt_cons_iff];rintro(h1|⟨_,h1⟩)
  ·exact UInt8.lt_irrefl _ h1
  ·exact FD p a h h1
theorem IB (s:ByteArray):∀(l:List Pr) (k:Nat),l.Pairwise (fun a b=>bl a.k b.k=true)->Bd (pfx s) s k l=l.filter (fun x=>pfx s 0 x.k)
 | [],k,_=>rfl
 |x::r,k,h=>by
  rw[List.pairwise_cons]at h;unfold Bd;rw[List.filter_cons]
  cases hb:bl x.k s
  ·cases hp:pfx s k x.k
   ·have hp0:pfx s 0 x.k=false:=hp
    rw[hp0]
    have e:List.filter (fun x=>pfx s 0 x.k) r=[]:=by
     refine List.filter_eq_nil_iff.2 fun y hy hpy=> ?_;have h2:=h.1 y hy;rw[Ch]at h2;have h1:¬x.k.data.toList<s.data.toList:=fun e=>by rw[<-Ch,hb]at e;cases e
     have:=Je s.data.toList x.k.data.toList y.k.data.toList h1 h2 hpy;unfold pfx Lib.hasPrefix at hp;rw[this]at hp;cases hp
    rw[e];simp
   ·have hp0:pfx s 0 x.k=true:=hp
    rw[hp0,IB s r (k+1) h.2];simp
  ·have hp0:pfx s 0 x.k=false:=by
    cases hp:pfx s 0 x.k
    ·rfl
    ·exact absurd ((Ch _ _).1 hb) (FD _ _ hp)
   rw[hp0,IB s r k h.2];simp
theorem Jw (x:List UInt8):∀m:List UInt8,(0:UInt8)∉m->Lib.index (m++0::x) [0]=(m.length:Int)
 | [],_=>by simp[Lib.index,List.isPrefixOf]
 |b::m,h=>by
  have hb:(0 == b)=false:=by
   cases e:((0:UInt8) == b)
   ·rfl
   ·exact absurd (show(0:UInt8)∈b::m by rw[eq_of_beq e];simp) h
  have ih:=Jw x m (fun e=>h (by simp[e]))
  have h3:((m.length:Int) == -1)=false:=by
   cases e:((m.length:Int) == -1)
   ·rfl
   ·have:=eq_of_beq e;omega
  rw[List.cons_append,Lib.index,ih,h3];simp[List.isPrefixOf,hb]
theorem GE (m x:List UInt8) (h:(0:UInt8)∉m):Lib.cut (m++0::x) [0]=(m,x,true):=by
 unfold Lib.cut;rw[Jw x m h,if_pos (by omega)];simp
theorem Eh {α:Type} {f:α->List Value} {k:Nat} (hf:∀x,(f x).length=k):∀(l:List α) (i j:Nat) (hi:i<l.length),j<k->(l.flatMap f)[k * i+j]? =(f l[i])[j]?
 | [],i,j,hi,_=>absurd hi (by simp)
 |x::r,0,j,_,hj=>by rw[List.flatMap_cons,Nat.mul_zero,Nat.zero_add,List.getElem?_append_left (by rw[hf];exact hj)];rfl
 |x::r,i+1,j,hi,hj=>by
  rw[List.flatMap_cons,List.getElem?_append_right (by rw[hf,Nat.mul_succ];omega),hf,show k * (i+1)+j-k=k * i+j by rw[Nat.mul_succ];omega];exact Eh hf r i j (by simpa using hi) hj
theorem DR {α:Type} {f:α->List Value} {k:Nat} (hf:∀x,(f x).length=k):∀(l:List α),(l.flatMap f).length=l.length * k
 | []=>by simp
 |x::r=>by rw[List.flatMap_cons,List.length_append,hf,DR hf r,List.length_cons,Nat.succ_mul];omega
theorem Cd {t e:TypeId} {k:Nat} (ht:Tryz.prog.underlying t=some (.slice e)) (he:Tryz.prog.elem t=e) (hs:(sizeOf e).run Tryz.prog=fun w=> .ok k w) (g n cap i:Nat) (hi:i<n) (wx:World):(Instr.indexAt t (.slice (some ⟨g,0,none⟩) n cap) (.int .i64 (i:Nat))).run Tryz.prog wx= .ok (.pointer (some ⟨g,k * i,none⟩)) wx:=by
 subst he;rw[run_indexAt_slice (h:=ht),if_pos ⟨by omega,by omega⟩,hs];simp[Result.andThen,A6,Nat.mul_comm]
section
variable {B:Nat} {v:Value} {w w':World}
theorem Aj {e:TypeId} {size n:Nat} {xs:List Value} (h:w.ownsRow B e size v n xs):∃a c,v= .slice a n c:=by
 rcases h.2 with⟨e1,e2⟩|⟨g,cap,cur,e1,_⟩
 ·exact⟨none,0,by rw[e1,e2]⟩
 ·exact⟨_,cap,e1⟩
theorem Lt {e:TypeId} {size n:Nat} {xs:List Value} (h:w.ownsRow B e size v n xs):n<=9223372036854775807:=by
 rcases h.2 with⟨_,e2⟩|⟨g,cap,cur,_,_,_,h4,h5,_⟩
 ·omega
 ·simp only[maxLen]at h5;omega
theorem Ag {e:TypeId} {size n:Nat} {xs:List Value} (h:w.ownsRow B e size v n xs) (hb:Below w.heap.size w w'):w'.ownsRow B e size v n xs:=Aw h (Ab hb (fun _=>False)) (fun _ e=>e.elim)
end
structure Ac (B:Nat) (l:List Value) (w:World):Prop where
 cell:∀i (hi:i<l.length),w.cell? ⟨B,i,none⟩=some l[i]
 free:∀i,w.frozen? ⟨B,i,none⟩=false
 pos:0<l.length
section
variable {B C o:Nat} {l:List Value} {u:Value} {w w':World}
theorem Ac.lt (h:Ac B l w):B<w.heap.size:=World.block_lt_of_cell? w _ (h.cell 0 h.pos)
theorem Ac.block (h:Ac B l w) (hb:w'.heap[B]? =w.heap[B]?):Ac B l w':=
 ⟨fun i hi=>by have:=h.cell i hi;simp only[World.cell?]at this ⊢;rw[hb];exact this,fun i=>by have:=h.free i;simp only[World.frozen?]at this ⊢;rw[hb];exact this,h.pos⟩
theorem Ac.below (h:Ac B l w) (hb:Below w.heap.size w w'):Ac B l w':=h.block (hb.block _ h.lt)
theorem Ac.only {S:Nat->Prop} (h:Ac B l w) (ho:Aa S w w') (hS:¬S B):Ac B l w':=h.block (ho.block B h.lt hS)
theorem Ac.drew (h:Ac B l w):Ac B l w.drew:=h.block rfl
theorem Ac.set (h:Ac B l w) (i:Nat) (v:Value):Ac B (l.set i v) (w.setCell ⟨B,i,none⟩ v):=by
 refine⟨fun j hj=> ?_,fun j=>by rw[World.frozen?_setCell];exact h.free j,by rw[List.length_set];exact h.pos⟩;rw[List.length_set]at hj
 by_cases e:i=j
 ·subst e
  rw[World.cell?_setCell_same _ _ _ (h.cell i hj)];simp
 ·rw[World.cell?_setCell_other _ _ _ _ (fun e'=>e (by cases e';rfl)),h.cell j hj];simp[e]
theorem Ac.far (h:Ac B l w) (hne:B≠C):Ac B l (w.setCell ⟨C,o,none⟩ u):=
 ⟨fun i hi=>by rw[World.cell?_setCell_other _ _ _ _ (fun e=>hne (by cases e;rfl))];exact h.cell i hi,fun i=>by rw[World.frozen?_setCell];exact h.free i,h.pos⟩
theorem Ac.new (w:World) (a:Array Value) (t:TypeId) (h:0<a.size):Ac w.heap.size a.toList (w.alloc (.cells a t)):=by
 have hn:(w.alloc (.cells a t)).heap[w.heap.size]? =Option.some (.cells a t):=heap_alloc_new w _;refine⟨fun i hi=> ?_,fun i=>by simp only[World.frozen?,hn];simp,by rw[Array.length_toList];exact h⟩;simp only[World.cell?,hn];rw[Array.length_toList]at hi;simp[hi]
theorem Ac.c3 {a b c:Value} (h:Ac B [a,b,c] w):w.cell? ⟨B,0,none⟩=some a/\w.cell? ⟨B,1,none⟩=some b/\w.cell? ⟨B,2,none⟩=some c:=⟨h.cell 0 (by simp),h.cell 1 (by simp),h.cell 2 (by simp)⟩
theorem Ac.c4 {a b c d:Value} (h:Ac B [a,b,c,d] w):w.cell? ⟨B,0,none⟩=some a/\w.cell? ⟨B,1,none⟩=some b/\w.cell? ⟨B,2,none⟩=some c/\w.cell? ⟨B,3,none⟩=some d:=⟨h.cell 0 (by simp),h.cell 1 (by simp),h.cell 2 (by simp),h.cell 3 (by simp)⟩
theorem Ac.get {j:Nat} {v:Value} (h:Ac B l w) (hv:l[j]? =some v):w.cell? ⟨B,0+j,none⟩=some v:=by
 have hj:j<l.length:=(List.getElem?_eq_some_iff.1 hv).1;rw[Nat.zero_add,h.cell j hj];rw[List.getElem?_eq_getElem hj]at hv;exact hv
end
theorem DE {B b o:Nat} {e:TypeId} {size n:Nat} {v u:Value} {xs:List Value} {w:World} (h:w.ownsRow B e size v n xs) (hb:∀k,v.ownBlock=some k->k≠b):(w.setCell ⟨b,o,none⟩ u).ownsRow B e size v n xs:=by
 have hG:w.grownBy (w.setCell ⟨b,o,none⟩ u) (some b):=⟨rfl,rfl,rfl,by simp,fun k _ hk=>heap_setCell_other w ⟨b,o,none⟩ k u (fun e=>hk (by simp[e]))⟩;refine World.ownsRow.kept h hG ?_
 cases e:v.ownBlock with
 |none=>exact .inl rfl
 |some k=>exact .inr (fun e2=>hb k e (Option.some.inj e2))
structure Sts where
 r:Nat
 bd:Nat
 tb:Nat->Nat
 M:Nat->Pr->Prop
 Z:Nat->Nat
def Sts.at (c:Sts) (r:Nat):Sts:=⟨r,c.bd,c.tb,c.M,c.Z⟩
def Sts.put (c:Sts) (r:Nat) (M:Pr->Prop) (Z:Nat):Sts:=⟨c.r,c.bd,c.tb,fun s=>if s=r then M else c.M s,fun s=>if s=r then Z else c.Z s⟩
structure Fo (bp:Nat) (c:Sts) (bm N:Nat) (up:Nat->Bool) (V:Pst) (T:Nat->Tr) (w:World):Prop where
 t:∀r,r<4->Tt (c.tb r) bp r w
 tw:Tw bp c.bd bm N sd0 up 1 V w
 a:∀r,r<4->Ck V r (T r)
 own:∀k,V.used k=true↔∃r,r<4/\k∈(T r).pgL
 dis:∀r s,r<4->s<4->r≠s->∀k∈(T r).pgL,k∉(T s).pgL
 ne:∀r,r<4->c.tb r≠bp/\c.tb r≠bm
def setT (T:Nat->Tr) (r:Nat) (X:Tr):Nat->Tr:=fun s=>if s=r then X else T s
theorem CA (T:Nat->Tr) (r:Nat) (X:Tr):setT T r X r=X:=if_pos rfl
theorem Dg (T:Nat->Tr) {r s:Nat} (X:Tr) (h:s≠r):setT T r X s=T s:=if_neg h
section
variable {bp bm N r:Nat} {c:Sts} {up:Nat->Bool} {V:Pst} {T:Nat->Tr} {w w':World}
theorem Fo.count (h:Fo bp c bm N up V T w):A1 V.used 2000<=240:=by
 have h1:=LP (f:=V.used) (g:=fun _=>false) (n:=2000) ((T 0).pgL++((T 1).pgL++((T 2).pgL++(T 3).pgL))) (fun k hk=> .inr (by
  obtain⟨r,hr,hm⟩:=(h.own k).1 hk;simp only[List.mem_append]
  match r,hr with
  |0,_=>exact .inl hm
  |1,_=>exact .inr (.inl hm)
  |2,_=>exact .inr (.inr (.inl hm))
  |3,_=>exact .inr (.inr (.inr hm))))
 rw[J9]at h1;simp only[List.length_append]at h1;have l0:=(h.a 0 (by omega)).pg_len;have l1:=(h.a 1 (by omega)).pg_len;have l2:=(h.a 2 (by omega)).pg_len;have l3:=(h.a 3 (by omega)).pg_len;have p0:=(h.a 0 (by omega)).pages_le;have p1:=(h.a 1 (by omega)).pages_le;have p2:=(h.a 2 (by omega)).pages_le;have p3:=(h.a 3 (by omega)).pages_le;omega
theorem Fo.below (h:Fo bp c bm N up V T w) (hb:Below w.heap.size w w'):Fo bp c bm N up V T w':=
 ⟨fun r hr=>(h.t r hr).below hb,h.tw.below hb,h.a,h.own,h.dis,h.ne⟩
theorem Fo.only {S:Nat->Prop} (h:Fo bp c bm N up V T w) (ho:Aa S w w') (h1:∀r,r<4->¬S (c.tb r)) (h2:¬S bp) (h3:¬S bm) (h4:¬S c.bd):Fo bp c bm N up V T w':=
 ⟨fun r hr=>(h.t r hr).only ho (h1 r hr),h.tw.only ho h2 h3 h4,h.a,h.own,h.dis,h.ne⟩
theorem Fo.lay {V':Pst} {N':Nat} {X:Tr} (hr:r<4) (h:Fo bp c bm N up V T w) (h1:QM V V' r (T r) X) (h2:Tw bp c.bd bm N' sd0 up 1 V' w') (h4:Aa (fun b=>b=bp\/b=bm) w w'):Fo bp c bm N' up V' (setT T r X) w':=by
 refine⟨fun s hs=>(h.t s hs).only h4 (fun e=>by rcases e with e|e;exact(h.ne s hs).1 e;exact(h.ne s hs).2 e),h2,fun s hs=> ?_,fun k=> ?_,fun s u hs hu hsu k hk=> ?_,h.ne⟩
 ·by_cases e:s=r
  ·subst e;rw[CA];exact h1.at_
  ·rw[Dg T X e]
   refine(h.a s hs).keep (fun k hk=> ?_) (h1.rp s e) (h1.rn s e);have hu:=((h.a s hs).used_pg k hk).1;have hx:k∉(T r).pgL:=h.dis s r hs hr e k hk;exact⟨(h1.used k).2 (.inl ⟨hu,hx⟩),h1.tx k hu hx⟩
 ·rw[h1.used k,h.own k]
  constructor
  ·rintro(⟨⟨s,hs,hk⟩,h6⟩|h5)
   ·have e:s≠r:=fun e=>h6 (e▸hk)
    exact⟨s,hs,by rw[Dg T X e];exact hk⟩
   ·exact⟨r,hr,by rw[CA];exact h5⟩
  ·rintro⟨s,hs,hk⟩
   by_cases e:s=r
   ·subst e;rw[CA]at hk;exact .inr hk
   ·rw[Dg T X e]at hk;exact .inl ⟨⟨s,hs,hk⟩,h.dis s r hs hr e k hk⟩
 ·have new:∀k∈X.pgL,∀s,s<4->s≠r->k∉(T s).pgL:=fun k hk s hs e hm=>by
   rcases h1.new k hk with h5|h5
   ·exact h.dis r s hr hs (fun e2=>e e2.symm) k h5 hm
   ·have:=(h.own k).2 ⟨s,hs,hm⟩
    rw[h5]at this;cases this
  by_cases e:s=r
  ·subst e
   rw[CA]at hk;rw[Dg T X (fun e=>hsu e.symm)];exact new k hk u hu (fun e=>hsu e.symm)
  ·rw[Dg T X e]at hk
   by_cases e2:u=r
   ·subst e2;rw[CA];exact fun hm=>new k hm s hs e hk
   ·rw[Dg T X e2];exact h.dis s u hs hu hsu k hk
structure SI (c:Sts) (r bp bm:Nat) (V:Pst) (X:Tr) (T:Nat->Tr) (w:World):Prop where
 me:T r=X
 t:∀s,s<4->s≠r->Tt (c.tb s) bp s w
 a:∀s,s<4->s≠r->Ck V s (T s)
 own:∀k,V.used k=true↔∃s,s<4/\k∈(T s).pgL
 dis:∀s u,s<4->u<4->s≠u->∀k∈(T s).pgL,k∉(T u).pgL
 ne:∀s,s<4->s≠r->c.tb s≠bp/\c.tb s≠bm
 sz:∀s,s<4->s≠r->szL (T s).all<=c.Z s
 mem:∀s,s<4->s≠r->∀x,x∈(T s).all↔c.M s x
theorem SI.fo {X:Tr} {bt:Nat} (h:SI c r bp bm V X T w) (hbt:c.tb r=bt) (ht:Tt bt bp r w) (htw:Tw bp c.bd bm N sd0 up 1 V w) (ha:Ck V r X) (hne:bt≠bp/\bt≠bm):Fo bp c bm N up V T w:=by
 refine⟨fun s hs=> ?_,htw,fun s hs=> ?_,h.own,h.dis,fun s hs=> ?_⟩
 ·by_cases e:s=r
  ·subst e;rw[hbt];exact ht
  ·exact h.t s hs e
 ·by_cases e:s=r
  ·subst e;rw[h.me];exact ha
  ·exact h.a s hs e
 ·by_cases e:s=r
  ·subst e;rw[hbt];exact hne
  ·exact h.ne s hs e
theorem Fo.rest (h:Fo bp c bm N up V T w) (hz:∀s,s<4->s≠r->szL (T s).all<=c.Z s) (hm:∀s,s<4->s≠r->∀x,x∈(T s).all↔c.M s x):SI c r bp bm V (T r) T w:=
 ⟨rfl,fun s hs _=>h.t s hs,fun s hs _=>h.a s hs,h.own,h.dis,fun s hs _=>h.ne s hs,hz,hm⟩
def StS (bp:Nat) (c:Sts) (bm N:Nat) (w:World):Prop:=∃N1 up V T,N1<=N/\Fo bp c bm N1 up V T w/\(∀s,s<4->szL (T s).all<=c.Z s)/\∀s,s<4->∀x,x∈(T s).all↔c.M s x
theorem StS.below (h:StS bp c bm N w) (hb:Below w.heap.size w w'):StS bp c bm N w':=by
 obtain⟨N1,up,V,T,h1,h2,h3⟩:=h;exact⟨N1,up,V,T,h1,h2.below hb,h3⟩
theorem StS.mono {N':Nat} (h:StS bp c bm N w) (hN:N<=N'):StS bp c bm N' w:=by
 obtain⟨N1,up,V,T,h1,h2,h3⟩:=h;exact⟨N1,up,V,T,by omega,h2,h3⟩
theorem StS.iff {c':Sts} (h:StS bp c bm N w) (hb:c'.bd=c.bd) (ht:∀s,s<4->c'.tb s=c.tb s) (hM:∀s,s<4->∀x,c.M s x↔c'.M s x) (hZ:∀s,s<4->c.Z s<=c'.Z s):StS bp c' bm N w:=by
 obtain⟨N1,up,V,T,k1,k2,k3,k4⟩:=h;exact⟨N1,up,V,T,k1,⟨fun s hs=>by rw[ht s hs];exact k2.t s hs,by rw[hb];exact k2.tw,k2.a,k2.own,k2.dis,fun s hs=>by rw[ht s hs];exact k2.ne s hs⟩,fun s hs=>Nat.le_trans (k3 s hs) (hZ s hs),fun s hs x=>(k4 s hs x).trans (hM s hs x)⟩
theorem StS.lt (h:StS bp c bm N w):bp<w.heap.size/\bm<w.heap.size/\c.bd<w.heap.size:=by
 obtain⟨N1,up,V,T,k1,k2,k3⟩:=h;exact k2.tw.lt
theorem StS.put_iff {M M':Pr->Prop} {Z Z':Nat} (h:StS bp (c.put r M Z) bm N w) (hM:∀x,M x↔M' x) (hZ:Z<=Z'):StS bp (c.put r M' Z') bm N w:=by
 refine h.iff rfl (fun _ _=>rfl) (fun s hs x=> ?_) (fun s hs=> ?_)
 ·show(if s=r then M else c.M s) x↔(if s=r then M' else c.M s) x
  split
  ·exact hM x
  ·exact Iff.rfl
 ·show(if s=r then Z else c.Z s)<=if s=r then Z' else c.Z s
  split
  ·exact hZ
  ·exact Nat.le_refl _
theorem Fo.sts {V':Pst} {N':Nat} {X:Tr} {M:Pr->Prop} {Z:Nat} (hr:r<4) (h:Fo bp c bm N up V T w) (hz:∀s,s<4->szL (T s).all<=c.Z s) (hm:∀s,s<4->∀x,x∈(T s).all↔c.M s x) (h1:QM V V' r (T r) X) (h2:Tw bp c.bd bm N' sd0 up 1 V' w') (h4:Aa (fun b=>b=bp\/b=bm) w w') (hZ:szL X.all<=Z) (hM:∀x,x∈X.all↔M x):StS bp (c.put r M Z) bm N' w':=by
 have k:=h.lay hr h1 h2 h4;refine⟨N',up,V',setT T r X,Nat.le_refl _,⟨k.t,k.tw,k.a,k.own,k.dis,k.ne⟩,fun s hs=> ?_,fun s hs x=> ?_⟩
 ·show _<=if s=r then Z else c.Z s
  by_cases e:s=r
  ·subst e;rw[CA,if_pos rfl];exact hZ
  ·rw[Dg _ _ e,if_neg e];exact hz s hs
 ·show _↔(if s=r then M else c.M s) x
  by_cases e:s=r
  ·subst e;rw[CA,if_pos rfl];exact hM x
  ·rw[Dg _ _ e,if_neg e];exact hm s hs x
theorem put4 (h:StS bp c bm N w) (hr:r<4) (x:Pr) (hx:x.Ok) (hZ:c.Z r+x.sz<=30000) (hN:N+60<1000000):
  Calls Tryz.prog 69 #[.pointer (some ⟨c.tb r,0,none⟩),.string x.k,.string x.i] w fun e w'=>e= .returned .nilIface/\StS bp (c.put r (fun y=>y=x\/(c.M r y/\y.k≠x.k)) (c.Z r+x.sz)) bm (N+40) w'/\Aa (fun b=>b=bp\/b=bm) w w':=by
 obtain⟨N1,up,V,T,h1,h2,h3,h4⟩:=h;have hc:=h2.count;refine(OH (h2.t r hr) h2.tw (h2.ne r hr) (h2.a r hr) x hx (by omega) (by omega)).mono ?_;rintro e w' ⟨A,mid,C,hrw,hg⟩;have h3r:=h3 r hr;have hsz:szL (T r).all=szL A+szL mid+szL C:=by rw[hrw.all,Af,Af]
 have hs1:szL [x]=x.sz:=rfl;rcases hg with⟨hbig,_⟩|⟨_,rfl,V',N',T',g3,g4,g5,g6,g7⟩
 ·rw[Af,Af,hs1]at hbig
  omega
 ·refine⟨rfl,(h2.sts hr h3 h4 g4 g5 g7 (M:=fun y=>y=x\/(c.M r y/\y.k≠x.k)) (Z:=c.Z r+x.sz) ?_ fun y=> ?_).mono (by omega),g7⟩
  ·rw[g3,Af,Af,hs1];omega
  ·show _↔y=x\/c.M r y/\y.k≠x.k
   rw[g3,<-h4 r hr y,hrw.all];constructor
   ·intro hy
    simp only[List.mem_append,List.mem_singleton]at hy;rcases hy with(hy|hy)|hy
    ·exact .inr ⟨by simp[hy],Ih (hrw.less y hy)⟩
    ·exact .inl hy
    ·exact .inr ⟨by simp[hy],fun e=>Ih (hrw.more y hy) e.symm⟩
   ·rintro(rfl|⟨hy,hk⟩)
    ·simp
    ·simp only[List.mem_append]at hy
     rcases hy with(hy|hy)|hy
     ·simp[hy]
     ·rcases hrw.mid_ with e|⟨z,e,hz⟩
      ·rw[e]at hy;cases hy
      ·rw[e]at hy
       obtain rfl:=List.mem_singleton.1 hy;exact absurd hz hk
     ·simp[hy]
theorem Kt {A C:List Pr} {y z:Pr} (hs:(A++[y]++C).Pairwise (fun a b=>bl a.k b.k=true)) (hz:z∈A++C):z≠y:=by
 rintro rfl;rw[List.append_assoc,List.pairwise_append]at hs;obtain⟨_,h2,h3⟩:=hs;rw[List.singleton_append,List.pairwise_cons]at h2;rcases List.mem_append.1 hz with hz|hz
 ·have:=h3 z hz z (by simp)
  rw[Ar]at this;cases this
 ·have:=h2.1 z hz
  rw[Ar]at this;cases this
theorem drop4 (h:StS bp c bm N w) (hr:r<4) (y:Pr) (hy:c.M r y) (hN:N+60<1000000):
  Calls Tryz.prog 79 #[.pointer (some ⟨c.tb r,0,none⟩),.string y.k] w fun e w'=>e= .returned .nilIface/\StS bp (c.put r (fun z=>c.M r z/\z≠y) (c.Z r)) bm (N+40) w'/\Aa (fun b=>b=bp\/b=bm) w w':=by
 obtain⟨N1,up,V,T,h1,h2,h3,h4⟩:=h;have hc:=h2.count;have h3r:=h3 r hr;have hyT:=(h4 r hr y).2 hy;obtain⟨A,C,hall0⟩:=List.append_of_mem hyT;have hall:(T r).all=A++[y]++C:=by rw[hall0];simp
 have hsr:=(h2.a r hr).ok.sorted;have hs:(A++[y]++C).Pairwise (fun a b=>bl a.k b.k=true):=by rw[<-hall];exact hsr
 refine(J6 (h2.t r hr) h2.tw (h2.ne r hr) (h2.a r hr) y.k (by omega) (by omega)).mono ?_;rintro e w' (⟨hno,_⟩|⟨A',y',C',ha',hk',hg⟩)
 ·exact absurd rfl (hno y hyT)
 ·obtain⟨rfl,_,rfl⟩:=Ku (hall.symm.trans ha') hs hk'.symm
  rcases hg with⟨hbig,_⟩|⟨_,rfl,V',N',T',g3,g4,g5,g6,g7⟩
  ·have hsm:szL (T r).all<=30000:=(h2.a r hr).ok.sum
   rw[hall]at hsm;rw[Af,Af]at hsm hbig;simp only[szL]at hbig;omega
  ·have g3':T'.all=A++C:=by rw[g3];simp
   refine⟨rfl,(h2.sts hr h3 h4 g4 g5 g7 (M:=fun z=>c.M r z/\z≠y) (Z:=c.Z r) ?_ fun z=> ?_).mono (by omega),g7⟩
   ·rw[g3',Af]
    rw[hall,Af,Af]at h3r;omega
   ·show _↔c.M r z/\z≠y
    rw[g3',<-h4 r hr z,hall];constructor
    ·intro hz
     exact⟨by rcases List.mem_append.1 hz with hz|hz<;>simp[hz],Kt hs hz⟩
    ·rintro⟨hz,hne⟩
     simp only[List.mem_append,List.mem_singleton]at hz;rcases hz with(hz|hz)|hz
     ·simp[hz]
     ·exact absurd hz hne
     ·simp[hz]
theorem V8 (h:StS bp c bm N w) (hr:r<4) (key:ByteArray):
  Calls Tryz.prog 77 #[.pointer (some ⟨c.tb r,0,none⟩),.string key] w fun e w'=>((∃x,c.M r x/\x.k=key/\e= .returned (.tuple #[.string x.i,.nilIface]))\/((∀x,c.M r x->x.k≠key)/\e= .returned (.tuple #[.string ⟨#[]⟩,.iface 101 (.int .i64 7)])))/\Below w.heap.size w w':=by
 obtain⟨N1,up,V,T,h1,h2,h3,h4⟩:=h;refine(LN (h2.t r hr) h2.tw (h2.a r hr) key).mono ?_;rintro e w' ⟨hg,hb⟩;refine⟨?_,hb⟩;rcases hg with⟨x,hx,hxk,rfl⟩|⟨hno,rfl⟩
 ·exact .inl ⟨x,(h4 r hr x).1 hx,hxk,rfl⟩
 ·exact .inr ⟨fun x hx=>hno x ((h4 r hr x).2 hx),rfl⟩
end
end
end Go.Proofs.YtihnldkgeelehaaGreatDoor
