/- StoreFinds: part 29. -/
import Derived.Test.YtihnldkgeelehaaGreatDoorF25
import Derived.Test.YtihnldkgeelehaaGreatDoorF28
import Derived.BigQuiet
import Derived.Deep.DeepCutAuto
import Derived.Laws.AppendOwnNone
import Derived.Laws.IdiomStrings
set_option maxRecDepth 100000
set_option maxHeartbeats 4000000
namespace Go.Proofs.YtihnldkgeelehaaGreatDoor
section
open Go.RowKit Go.Maps
def Ma (I:World->Prop) (F:World->Prop) (ev:Int) (e:Ending) (w':World):Prop:=
 (e= .returned .nilIface/\I w')\/(e= .returned (.iface 101 (.int .i64 ev))/\F w')
set_option maxHeartbeats 2000000
theorem F4 {B n fw fd:Nat} {ac a2:Option Addr} {cc l2 c2:Nat} {nm:ByteArray} {cs:List Col} {cw cd:Array Value} {Wn:Nat->Bool} {I:Nat->World->Prop} {F:World->Prop} {ev:Int} (w:World)
  (ew:∀args w,(callFunc fw args).run Tryz.prog w= .ok (.enter fw args) w) (ed:∀args w,(callFunc fd args).run Tryz.prog w= .ok (.enter fd args) w)
  (hcs:cs.length=n) (hn:n<=100) (hrow:∀j w,I j w->A8 B (.slice ac n cc) cs w) (hbel:∀j w w',I j w->Below w.heap.size w w'->I j w')
  (hw:∀j (h:j<cs.length) w,I j w->Calls Tryz.prog fw (#[.agg #[.string cs[j].nm,.int .i64 (cs[j].kd:Nat),.bool cs[j].mu,.bool cs[j].wo]]++cw) w fun e w'=>e= .returned (.bool (Wn j))/\Below w.heap.size w w')
  (hd:∀j,j<n->Wn j=true->∀w,I j w->Calls Tryz.prog fd (#[.int .i64 (j:Nat)]++cd) w fun e w'=>Ma (I (j+1)) F ev e w')
  (hs:∀j w,Wn j=false->I j w->I (j+1) w) (h0:I 0 w):
  Calls Tryz.prog 71 #[.agg #[.string nm,.slice ac n cc,.slice a2 l2 c2],.func (.func fw) #[] cw,.func (.func fd) #[] cd] w fun e w'=>Ma (I n) F ev e w':=by
 have HN:Hid (cs.length=n):=hcs;have HROW:Hid _:=hrow;have HBEL:Hid _:=hbel;have HW:Hid _:=hw;have HD:Hid _:=hd;have HS:Hid _:=hs;have HI0:Hid (I 0 (w.alloc (.cells #[.string nm,.slice ac n cc,.slice a2 l2 c2] 87))):=hbel 0 _ _ h0 ((Below.refl _ w).alloc (Nat.le_refl _) _);clear hcs hrow hbel hw hd hs h0;go_enter Tryz.func71,Tryz.ntmps71;go_wp2_with fail;go_loopw [13] (fun i wr=>∃k:Nat,k<=n/\i= .int .i64 (k:Nat)/\Hid (I k wr)) (fun i _=>n+1-(intOf i).toNat)
 case atStart=>exact⟨0,Nat.zero_le _,rfl,HI0⟩
 case round=>
  clear HI0;obtain⟨k,hk,rfl,HI⟩:=hrel
  by_cases hlt:k<n
  ·have h1:(k:Int)<(n:Int):=by omega
   have hkl:k<cs.length:=by rw[HN.out];exact hlt
   obtain⟨g,cap,ev',hg1,hg2,k0,k1,k2,k3,hix0⟩:=(HROW.out k wr HI.out).at hkl;rw[HN.out]at ev'
   cases ev'
   have hix:=hix0 n hlt;clear hix0;have HWW:Hid (∀w,I k w->Calls Tryz.prog fw (#[.agg #[.string cs[k].nm,.int .i64 (cs[k].kd:Nat),.bool cs[k].mu,.bool cs[k].wo]]++cw) w fun e w'=>e= .returned (.bool (Wn k))/\Below w.heap.size w w'):=HW.out k hkl;obtain⟨x,hx⟩:∃x,cs[k]=x:=⟨_,rfl⟩;rw[hx]at k0 k1 k2 k3 HWW;have HIA:Hid (I k (wr.alloc (.cells #[.string x.nm,.int .i64 (x.kd:Nat),.bool x.mu,.bool x.wo] 83))):=HBEL.out k _ _ HI.out ((Below.refl _ wr).alloc (Nat.le_refl _) _);go_wp2_with fail;refine(show Calls _ _ _ _ _ from HWW.out _ HIA.out).mono ?_;rintro _ w2 ⟨rfl,hb2⟩;have HI2:Hid (I k w2):=HBEL.out k _ _ HIA.out hb2;clear hb2 k0 k1 k2 k3 HWW HIA HI
   cases hp:Wn k
   ·have HI3:Hid (I (k+1) w2):=HS.out k _ hp HI2.out
    go_wp2_with fail;go_roundw
    case rel=>exact⟨k+1,by omega,by go_num,HI3⟩
    case measure=>simp[intOf];omega
   ·have HDD:Hid _:=HD.out k hlt hp w2 HI2.out
    go_wp2_with fail;refine(show Calls _ _ _ _ _ from HDD.out).mono ?_;rintro _ w3 (⟨rfl,hI3⟩|⟨rfl,hF3⟩)
    ·have HI3:Hid (I (k+1) w3):=hI3
     clear hI3;go_wp2_with fail;go_roundw
     case rel=>exact⟨k+1,by omega,by go_num,HI3⟩
     case measure=>simp[intOf];omega
    ·have HF3:Hid (F w3):=hF3
     clear hF3;go_wp2;go_ret;exact .inr ⟨rfl,HF3.out⟩
  ·have h1:¬(k:Int)<(n:Int):=by omega
   obtain rfl:n=k:=by omega
   go_wp2;go_ret;exact .inl ⟨rfl,HI.out⟩
theorem GA (w:World) (nm:ByteArray) (a1 a2:Option Addr) (l1 c1 l2 c2:Nat):
  Calls Tryz.prog 72 #[.agg #[.string nm,.slice a1 l1 c1,.slice a2 l2 c2]] w fun e w'=>e= .returned (.func (.func 125) #[] #[.pointer (some ⟨w.heap.size,0,none⟩)])/\w'=w.alloc (.cells #[.string nm,.slice a1 l1 c1,.slice a2 l2 c2] 87):=by
 have hmf:∀(fn:Fn) (first cap:Array Value) (w:World),(Instr.makeFunc fn first cap).run Tryz.prog w= .ok (.func fn first cap) w:=fun _ _ _ _=>rfl;go_enter Tryz.func72,Tryz.ntmps72;go_wp2;go_ret;exact⟨rfl,rfl⟩
theorem G9 (w:World) (c:Col):Calls Tryz.prog 74 #[.agg #[.string c.nm,.int .i64 (c.kd:Nat),.bool c.mu,.bool c.wo]] w fun e w'=>e= .returned (.bool c.wo)/\Below w.heap.size w w':=by
 go_enter Tryz.func74,Tryz.ntmps74;go_wp2;go_ret;exact⟨rfl,(Below.refl _ w).alloc (Nat.le_refl _) _⟩
theorem Ia (w:World) (c:Col) {b Bi:Nat} {nm:ByteArray} {vc:Value} {ai:Option Addr} {ci:Nat} {is_:List ByteArray} (hb:Ac b [.string nm,vc,.slice ai is_.length ci] w) (hi:Cp Bi (.slice ai is_.length ci) is_ w):
  Calls Tryz.prog 125 #[.agg #[.string c.nm,.int .i64 (c.kd:Nat),.bool c.mu,.bool c.wo],.pointer (some ⟨b,0,none⟩)] w fun e w'=>e= .returned (.bool (Lib.containsS is_ c.nm))/\Below w.heap.size w w':=by
 have hba:Below w.heap.size w (w.alloc (.cells #[.string c.nm,.int .i64 (c.kd:Nat),.bool c.mu,.bool c.wo] 83)):=(Below.refl _ w).alloc (Nat.le_refl _) _;have HB:Hid _:=hba;have HI:Hid (Cp Bi (.slice ai is_.length ci) is_ (w.alloc (.cells #[.string c.nm,.int .i64 (c.kd:Nat),.bool c.mu,.bool c.wo] 83))):=Ag hi hba;have HV:Ac b [.string nm,vc,.slice ai is_.length ci] (w.alloc (.cells #[.string c.nm,.int .i64 (c.kd:Nat),.bool c.mu,.bool c.wo] 83)):=hb.below hba;have q2:=HV.cell 2 (by simp);simp only[List.getElem_cons_succ,List.getElem_cons_zero]at q2;clear hb hba HV hi;go_enter Tryz.func125,Tryz.ntmps125;go_wp2_with fail;refine(Iz c.nm _ HI.out).mono ?_;rintro _ w9 ⟨rfl,h9⟩;obtain rfl:=h9.symm;clear h9;go_wp2;go_ret;exact⟨rfl,HB.out⟩
end
section
open Go.RowKit
theorem Rn (b off n cap c:Nat) (hc:c<n) (hn:n<=cap) (wx:World):(Instr.slice 46 (.slice (some ⟨b,off,none⟩) n cap) (some (.int .i64 (c:Nat))) (some (.int .i64 ((c:Int)+1))) none).run Tryz.prog wx= .ok (.slice (some ⟨b,off+c * 3,none⟩) 1 (cap-c)) wx:=by
 simp[Instr.slice,Instr.sliceBounds,Instr.sliceBound,asIntOf,run_underlying Tryz.underlying46,go_sem,Tryz.sizeOf24];rw[if_pos ⟨by omega,by omega⟩,if_neg (by omega)]
theorem BY.one {w:World} {b off len:Nat} {xs:List Vl} (h:BY w (some ⟨b,off,none⟩) len xs) {c:Nat} (hc:c<xs.length):BY w (some ⟨b,off+c * 3,none⟩) 1 [xs[c]]:=by
 obtain⟨h1,h2,h3⟩:=h;refine⟨rfl,by decide,.inr ⟨b,off+c * 3,rfl,?_,fun i hi=> ?_⟩⟩
 ·rcases h3 with h3|⟨b',o',e,hlt,_⟩
  ·rw[h3]at hc;simp at hc
  ·cases e;exact hlt
 ·rcases h3 with h3|⟨b',o',e,hlt,hr⟩
  ·rw[h3]at hc;simp at hc
  ·cases e
   obtain rfl:i=0:=by simp at hi;exact hi
   have:=hr c hc;simpa using this
theorem BY.some {w:World} {a:Option Addr} {len:Nat} {xs:List Vl} (h:BY w a len xs) (hx:0<xs.length):∃b off,a= .some ⟨b,off,.none⟩/\b<w.heap.size:=by
 obtain⟨h1,h2,h3⟩:=h;rcases h3 with h3|⟨b,o,e,hlt,_⟩
 ·rw[h3]at hx;simp at hx
 ·exact⟨b,o,e,hlt⟩
set_option maxHeartbeats 1000000
theorem G7 (t c id:Nat) {a:Option Addr} {len cap:Nat} {xs:List Vl} (w:World) (hr:BY w a len xs) (hc:c<xs.length) (hcap:len<=cap) (hl:xs.length<=1000) (hf:CQ xs[c]) (hrt:Ba xs[c]=true):
  Calls Tryz.prog 81 #[.int .i64 (t:Nat),.int .i64 (c:Nat),.agg #[.int .i64 (id:Nat),.slice a len cap]] w fun e w'=>e= .returned (.tuple #[.string (ikB t c id xs[c]),.nilIface])/\Below w.heap.size w w':=by
 obtain⟨b,off,ha,hlt⟩:=hr.some (by omega);subst ha;have hlen:=hr.1;have h1:=hr.one hc;have hcl:c<len:=by omega
 clear hlen;obtain⟨W1,hW1⟩:∃W1,w.alloc (.cells #[.int .i64 (id:Nat),.slice (some ⟨b,off,none⟩) len cap] 57)=W1:=⟨_,rfl⟩;have hb1:Below w.heap.size w W1:=by rw[<-hW1];exact(Below.refl _ w).alloc (Nat.le_refl _) _
 have q0:W1.cell? ⟨w.heap.size,0,none⟩=some (.int .i64 (id:Nat)):=by rw[<-hW1];simp
 have q1:W1.cell? ⟨w.heap.size,1,none⟩=some (.slice (some ⟨b,off,none⟩) len cap):=by rw[<-hW1];simp
 have hlt1:w.heap.size<W1.heap.size:=by rw[<-hW1];simp
 have hcut:=Rn b off len cap c hcl hcap;have hadd:IntKind.i64.wrap ((c:Int)+1)=(c:Int)+1:=JN (by omega) (by omega)
 have HK:Hid (Calls Tryz.prog 63 #[.slice (some ⟨b,off+c * 3,none⟩) 1 (cap-c)] W1 fun e w'=>e= .returned (.tuple #[.string (An (BD xs[c])),.nilIface])/\Below W1.heap.size W1 w'):=by
  have:=RQ (some ⟨b,off+c * 3,none⟩) 1 (cap-c) [xs[c]] W1 (h1.below hb1 (Nat.le_refl _)) (fun x hx=>by rw[List.mem_singleton.1 hx];exact hf) (by simp) (fun x hx=>by rw[List.mem_singleton.1 hx];exact hrt);have e:Bp [xs[c]]=BD xs[c]:=by simp[Bp]
  rw[e]at this;exact this
 have HB1:Hid _:=hb1;have hel:=I1 hrt;have hs1:=EU (Av t 2++Av c 1) (BD xs[c]) (by simp[Ay];omega);have hs2:=EU (Av t 2++Av c 1++BD xs[c]) (Av id 8) (by simp[Ay];omega);obtain⟨E,hE⟩:∃E,An (BD xs[c])=E:=⟨_,rfl⟩;obtain⟨K1,hK1⟩:∃K,An (Av t 2++Av c 1++BD xs[c])=K:=⟨_,rfl⟩;obtain⟨K2,hK2⟩:∃K,An (Av t 2++Av c 1++BD xs[c]++Av id 8)=K:=⟨_,rfl⟩;have hik:ikB t c id xs[c]=K2:=hK2;rw[hik];rw[hE]at HK;rw[hE,hK1]at hs1;rw[hK1,hK2]at hs2;have hck:ckB t c=An (Av t 2++Av c 1):=rfl;rw[<-hck]at hs1;clear hK1 hK2;clear hik hE hel hr h1 hb1 hf hrt hc hl;go_enter Tryz.func81,Tryz.ntmps81;go_wp2_with fail;refine(show Calls _ _ _ _ _ from HK.out).mono ?_;rintro _ w2 ⟨rfl,hb2⟩;have HB2:Hid (Below w.heap.size w w2):=HB1.out.trans (hb2.mono HB1.out.size);have C0:Hid (w2.drew.cell? ⟨w.heap.size,0,none⟩=some (.int .i64 (id:Nat))):=(hb2.cell (p:=⟨w.heap.size,0,none⟩) hlt1).trans q0;clear hb2 q0 q1 hcut hck;go_wp2_with fail
 go_region_held3 (fun wx=>wx.cell? ⟨w.heap.size,0,none⟩=some (.int .i64 (id:Nat))) (first|exact C0.out|exact C1.out|exact C2.out) (first|(go_at_call 45;refine(FF t c _).mono ?_;rintro _ w3 ⟨rfl,hb3⟩;have HB3:Hid (Below w.heap.size w w3):=HB2.out.drew.trans (hb3.mono HB2.out.size);have C1:Hid (w3.cell? ⟨w.heap.size,0,none⟩=some (.int .i64 (id:Nat))):=(hb3.cell (World.block_lt_of_cell? _ _ C0.out)).trans C0.out;clear hb3)|(go_at_call 67;refine(DJ id 8 (by omega) _).mono ?_;rintro _ w4 ⟨rfl,hb4⟩;have HB4:Hid (Below w.heap.size w w4):=HB3.out.trans (hb4.mono HB3.out.size);have C2:Hid (w4.cell? ⟨w.heap.size,0,none⟩=some (.int .i64 (id:Nat))):=(hb4.cell (World.block_lt_of_cell? _ _ C1.out)).trans C1.out;clear hb4))
 go_wp2;go_ret2;exact⟨rfl,HB4.out⟩
theorem KU (t c id:Nat) (x:Vl):(ikB t c id x).size=11+(BD x).length/\(ikB t c id x).extract 3 (3+(BD x).length)=An (BD x)/\(ikB t c id x).extract (3+(BD x).length) (11+(BD x).length)=An (Av id 8):=by
 have hl:(ikB t c id x).data.toList=(Av t 2++Av c 1)++(BD x++Av id 8):=by unfold ikB;rw[A0];simp
 have hl2:(ikB t c id x).data.toList=(Av t 2++Av c 1++BD x)++Av id 8:=by unfold ikB;rw[A0]
 have n3:(Av t 2++Av c 1).length=3:=by simp[Ay]
 refine⟨?_,?_,?_⟩
 ·rw[AA,hl];simp[Ay];omega
 ·apply Dc
  rw[CM,A0,hl2,List.take_left' (by simp[Ay];omega),List.append_assoc,<-List.append_assoc,List.drop_left' n3]
 ·apply Dc
  rw[CM,A0,hl2,List.take_of_length_le (by simp[Ay];omega),List.drop_left' (by simp[Ay];omega)]
theorem FK (K:ByteArray) (R:Nat) (hR:R<=K.size) (V:ByteArray) (hV:K.extract R K.size=V) (wx:World):(Instr.slice 9 (.string K) (some (.int .i64 (R:Nat))) none none).run Tryz.prog wx= .ok (.string V) wx:=by
 subst hV;simp[Instr.slice,Instr.sliceBounds,Instr.sliceBound,asIntOf,run_underlying Tryz.underlying9,go_sem];intro h;omega
theorem Hi {w:World} {b B o:Nat} (h:b≠B) (u0 u1 u2:Value):(((w.setCell ⟨B,0,none⟩ u0).setCell ⟨B,1,none⟩ u1).setCell ⟨B,2,none⟩ u2).cell? ⟨b,o,none⟩=w.cell? ⟨b,o,none⟩:=by
 rw[World.cell?_setCell_other _ _ _ _ (fun e=>h (by cases e;rfl)),World.cell?_setCell_other _ _ _ _ (fun e=>h (by cases e;rfl)),World.cell?_setCell_other _ _ _ _ (fun e=>h (by cases e;rfl))]
theorem JS (t c id:Nat) (x:Vl) (w:World) (hf:CQ x) (hr:Ba x=true) (hid:id<4000000000):
  Calls Tryz.prog 46 #[.string (ikB t c id x)] w fun e w'=>e= .returned (.tuple #[.agg #[.int .i64 x.k,.int .i64 x.n,.string x.s],.int .i64 (id:Nat),.nilIface])/\Below w.heap.size w w':=by
 obtain⟨hsz,hx1,hx2⟩:=KU t c id x;have hel:=I1 hr;have hxs:=EC hr;obtain⟨L,hL⟩:∃L,(BD x).length=L:=⟨_,rfl⟩;rw[hL]at hsz hx1 hx2 hel
 have hRD:∀wx,Calls Tryz.prog 100 #[.string (An (BD x))] wx (JJ wx (some [x])):=fun wx=>by
  have h1:=Kl (An (BD x)) wx (by rw[Bh];omega);have h2:=M3 [x] (fun y hy=>by rw[List.mem_singleton.1 hy];exact hr) (fun y hy=>by rw[List.mem_singleton.1 hy];exact hf) (An (BD x)).size (by rw[Bh];simp[Bp]);rw[A0]at h1;have e:Bp [x]=BD x:=by simp[Bp]
  rw[e]at h2;rw[h2]at h1;exact h1
 have HRD:Hid _:=hRD;obtain⟨K,hK⟩:∃K,ikB t c id x=K:=⟨_,rfl⟩;obtain⟨E,hE⟩:∃E,An (BD x)=E:=⟨_,rfl⟩;rw[hK]at hsz hx1 hx2;rw[hE]at hx1 HRD;rw[hK];obtain⟨R,hR⟩:∃R,3+L=R:=⟨_,rfl⟩;rw[show 11+L=R+8 by omega]at hsz hx2;rw[hR]at hx1 hx2;have hR3:3<=R:=by omega
 have hR45:R<=45:=by omega
 have h3:¬(R:Int)<3:=by omega
 have hsl1:∀wx,(Instr.slice 9 (.string K) (some (.int .i64 3)) (some (.int .i64 (R:Nat))) none).run Tryz.prog wx= .ok (.string E) wx:=fun wx=>Fw K 3 R (by omega) (by omega) _ _ rfl rfl E hx1 wx;have HX2:Hid (K.extract R (R+8)=An (Av id 8)):=hx2;obtain⟨V2,hV2⟩:∃V,An (Av id 8)=V:=⟨_,rfl⟩
 have HRN:Hid (∀wx,Calls Tryz.prog 101 #[.string V2] wx fun e w'=>e= .returned (.int .i64 (id:Nat))/\w'=wx):=fun wx=>by
  have:=Hr id 8 hid (by omega) (NU hid) wx;rw[hV2]at this;exact this
 rw[hV2]at hx2
 have hsl2:∀wx,(Instr.slice 9 (.string K) (some (.int .i64 (R:Nat))) none none).run Tryz.prog wx= .ok (.string V2) wx:=fun wx=>by
  have:=FK K R (by omega) V2 (by rw[hsz];exact hx2) wx;exact this
 clear hx1 hx2 hE hK hR hL hel hRD hV2 hf hr;go_enter Tryz.func46,Tryz.ntmps46;go_wp2_with fail;refine(show Calls _ _ _ _ _ from HRD.out _).mono ?_;rintro _ w2 ⟨hb2,v,rfl,ho2⟩;obtain⟨a,cap,rfl,hvr,_⟩:=EV ho2 (fun y hy=>by rw[List.mem_singleton.1 hy];exact hxs) (by show 1<=maxLen;decide);obtain⟨b,off,rfl,hbl⟩:=hvr.some (by simp);obtain⟨h1,h2,hv3⟩:=hvr
 have hat:w2.cell? ⟨b,off,none⟩=some (.int .i64 x.k)/\w2.cell? ⟨b,off+1,none⟩=some (.int .i64 x.n)/\w2.cell? ⟨b,off+2,none⟩=some (.string x.s):=by
  rcases hv3 with h|⟨b',o',e,_,hr⟩
  ·cases h
  ·cases e
   have:=hr 0 (by simp);simpa using⟨this.1,this.2.1,this.2.2.1⟩
 have hbne:b≠w.heap.size:=fun e=>by
  have h7:=(World.ownsRow.lt ho2 b rfl).1;rw[World.size_alloc]at h7;omega
 have HV:Hid (Ac w.heap.size [.int .i64 0,.int .i64 0,.string ⟨#[]⟩] w2):=((Ac.new w #[.int .i64 0,.int .i64 0,.string ⟨#[]⟩] 24 (by simp)).below hb2);have HB2:Hid (Below w.heap.size w w2):=((Below.refl _ w).alloc (Nat.le_refl _) _).trans (hb2.mono (by simp));have C0:Hid (w2.drew.cell? ⟨b,off,none⟩=some (.int .i64 x.k)/\w2.drew.cell? ⟨b,off+1,none⟩=some (.int .i64 x.n)/\w2.drew.cell? ⟨b,off+2,none⟩=some (.string x.s)):=hat;have f0:=HV.out.free 0;have f1:=HV.out.free 1;have f2:=HV.out.free 2;have d0:=HV.out.cell 0 (by simp);have d1:=HV.out.cell 1 (by simp);have d2:=HV.out.cell 2 (by simp);simp only[List.getElem_cons_zero,List.getElem_cons_succ]at d0 d1 d2;clear hat hv3 ho2 hb2 h1 h2 hsl1 HRD;go_wp2_with fail;refine wp_region_held_drew (S:=fun wx=>wx.cell? ⟨b,off,none⟩=some (.int .i64 x.k)/\wx.cell? ⟨b,off+1,none⟩=some (.int .i64 x.n)/\wx.cell? ⟨b,off+2,none⟩=some (.string x.s)) (by kernel_rfl) (C0.out) ?_;intro g0;refine wpAnyH_take (i:=0) (oi:={dst:=some 31,op:=Op.move (Operand.tmp 6),type:=46,pos:= "row.go:97",after:= #[],guard:=none}) (v:= .slice (some ⟨b,off,none⟩) 1 cap) rfl (by kernel_rfl) (by kernel_rfl) (by kernel_rfl) (fun _ _ _ h=>h) (Or.inl ⟨by rfl,fun wx _=>by go_simp⟩) g0 ?_;simp only[Act.put,List.setIfInBounds_toArray,List.set_cons_zero,List.set_cons_succ];refine wpAnyH_take (i:=1) (oi:={dst:=some 32,op:=Op.indexAddr 46 (Operand.tmp 31) (Operand.const (Value.int IntKind.i64 0)),type:=0,pos:= "row.go:97",after:= #[{on:=0,ground:=Ground.data}],guard:=none}) (v:= .pointer (some ⟨b,off,none⟩)) rfl (by kernel_rfl) (by kernel_rfl) (by kernel_rfl) (fun _ _ _ h=>h) (Or.inl ⟨by rfl,fun wx _=>by go_simp⟩) g0 ?_;simp only[Act.put,List.setIfInBounds_toArray,List.set_cons_zero,List.set_cons_succ];refine wpAnyH_take (i:=2) (oi:={dst:=some 33,op:=Op.load 24 (Operand.tmp 32),type:=24,pos:= "row.go:97",after:= #[{on:=1,ground:=Ground.data}],guard:=none}) (v:= .agg #[.int .i64 x.k,.int .i64 x.n,.string x.s]) rfl (by kernel_rfl) (by kernel_rfl) (by kernel_rfl) (fun _ _ _ h=>h) (Or.inl ⟨by rfl,fun wx h=>by have h8:=h;go_simp⟩) g0 ?_;simp only[Act.put,List.setIfInBounds_toArray,List.set_cons_zero,List.set_cons_succ];refine wpAnyH_take (i:=3) (oi:={dst:=some 34,op:=Op.move (Operand.tmp 0),type:=9,pos:= "row.go:97",after:= #[],guard:=none}) (v:= .string K) rfl (by kernel_rfl) (by kernel_rfl) (by kernel_rfl) (fun _ _ _ h=>h) (Or.inl ⟨by rfl,fun wx _=>by go_simp⟩) g0 ?_;simp only[Act.put,List.setIfInBounds_toArray,List.set_cons_zero,List.set_cons_succ];refine wpAnyH_take (i:=4) (oi:={dst:=some 35,op:=Op.move (Operand.tmp 5),type:=3,pos:= "row.go:97",after:= #[],guard:=none}) (v:= .int .i64 (R:Nat)) rfl (by kernel_rfl) (by kernel_rfl) (by kernel_rfl) (fun _ _ _ h=>h) (Or.inl ⟨by rfl,fun wx _=>by go_simp⟩) g0 ?_;simp only[Act.put,List.setIfInBounds_toArray,List.set_cons_zero,List.set_cons_succ];refine wpAnyH_take (i:=5) (oi:={dst:=some 36,op:=Op.slice 9 (Operand.tmp 34) (some (Operand.tmp 35)) none none,type:=9,pos:= "row.go:97",after:= #[{on:=3,ground:=Ground.data},{on:=4,ground:=Ground.data}],guard:=none}) (v:= .string V2) rfl (by kernel_rfl) (by kernel_rfl) (by kernel_rfl) (fun _ _ _ h=>h) (Or.inl ⟨by rfl,fun wx _=>by have h8:=hsl2 wx;go_simp⟩) g0 ?_;simp only[Act.put,List.setIfInBounds_toArray,List.set_cons_zero,List.set_cons_succ];refine wpAnyH_ready (rs:=[6]) (by kernel_rfl) (by decide) (AllReadyH.cons (o:={dst:=some 37,op:=Op.call {callee:=Callee.value (Operand.func 101),args:= #[Operand.tmp 36],argTypes:= #[9]},type:=3,pos:= "row.go:97",after:= #[{on:=5,ground:=Ground.data}],guard:=none}) rfl (fun K hK=> ?_) AllReadyH.nil);rw[if_pos (by rfl)]
 go_simp
 refine(show Calls _ _ _ _ _ from HRN.out _).mono ?_;rintro _ w9 ⟨rfl,h9⟩;obtain rfl:=h9.symm;clear h9;refine hK.out _ _ (g0) (fun g1=> ?_);clear hK K
 try simp only[Act.put,List.setIfInBounds_toArray,List.set_cons_zero,List.set_cons_succ]
 refine wpAnyH_ready (rs:=[7]) (by kernel_rfl) (by decide) (AllReadyH.cons (o:={dst:=none,op:=Op.store 24 (Operand.tmp 2) (Operand.tmp 33),type:=0,pos:= "row.go:97",after:= #[{on:=2,ground:=Ground.data},{on:=6,ground:=Ground.chain},{on:=0,ground:=Ground.phase},{on:=1,ground:=Ground.phase},{on:=2,ground:=Ground.phase},{on:=3,ground:=Ground.textOnly Departure.lateStores},{on:=4,ground:=Ground.textOnly Departure.lateStores},{on:=5,ground:=Ground.textOnly Departure.lateStoresUnsure},{on:=6,ground:=Ground.textOnly Departure.lateStoresUnsure}],guard:=none}) rfl (fun K hK=> ?_) AllReadyH.nil);rw[if_pos (by rfl)]
 go_simp
 refine hK.out _ _ (⟨(Hi hbne _ _ _).trans g1.1,(Hi hbne _ _ _).trans g1.2.1,(Hi hbne _ _ _).trans g1.2.2⟩) (fun g2=> ?_);clear hK K
 try simp only[Act.put,List.setIfInBounds_toArray,List.set_cons_zero,List.set_cons_succ]
 refine wpAnyH_take (i:=8) (oi:={dst:=some 3,op:=Op.assign (Operand.tmp 37),type:=3,pos:= "row.go:97",after:= #[{on:=6,ground:=Ground.data},{on:=7,ground:=Ground.chain},{on:=0,ground:=Ground.phase},{on:=1,ground:=Ground.phase},{on:=2,ground:=Ground.phase},{on:=3,ground:=Ground.phase},{on:=4,ground:=Ground.phase},{on:=5,ground:=Ground.phase},{on:=6,ground:=Ground.phase},{on:=7,ground:=Ground.phase}],guard:=none}) (v:= .int .i64 (id:Nat)) rfl (by kernel_rfl) (by kernel_rfl) (by kernel_rfl) (fun _ _ _ h=>h) (Or.inl ⟨by rfl,fun wx _=>by go_simp⟩) g2 ?_;simp only[Act.put,List.setIfInBounds_toArray,List.set_cons_zero,List.set_cons_succ];refine wpAnyH_take (i:=9) (oi:={dst:=some 4,op:=Op.assign (Operand.const Value.nilIface),type:=43,pos:= "row.go:97",after:= #[{on:=8,ground:=Ground.chain},{on:=0,ground:=Ground.phase},{on:=1,ground:=Ground.phase},{on:=2,ground:=Ground.phase},{on:=3,ground:=Ground.phase},{on:=4,ground:=Ground.phase},{on:=5,ground:=Ground.phase},{on:=6,ground:=Ground.phase},{on:=7,ground:=Ground.phase},{on:=8,ground:=Ground.phase}],guard:=none}) (v:= .nilIface) rfl (by kernel_rfl) (by kernel_rfl) (by kernel_rfl) (fun _ _ _ h=>h) (Or.inl ⟨by rfl,fun wx _=>by go_simp⟩) g2 ?_;simp only[Act.put,List.setIfInBounds_toArray,List.set_cons_zero,List.set_cons_succ];refine wpAnyH_done (by kernel_rfl) ?_ _;go_wp2;exact bodyPost_ret (v:= .tuple #[.agg #[.int .i64 x.k,.int .i64 x.n,.string x.s],.int .i64 (id:Nat),.nilIface]) (by simp[results,Tryz.results46,go_sem,d0,d1,d2]) rfl ⟨rfl,((HB2.out.drew.setCell (Nat.le_refl _) _).setCell (Nat.le_refl _) _).setCell (Nat.le_refl _) _⟩
def wrE (c:Col) (x:Vl):Int:=if Ba x=false then 1 else if x.k≠0/\x.k≠(c.kd:Int)then 1 else if x.k=0/\c.mu=true then 13 else 0
theorem Pn (c:Col) (x:Vl) (w:World) (hs:x.s.size<=maxLen) (hkd:c.kd=1\/c.kd=2):
  Calls Tryz.prog 62 #[.agg #[.string c.nm,.int .i64 (c.kd:Nat),.bool c.mu,.bool c.wo],.agg #[.int .i64 x.k,.int .i64 x.n,.string x.s]] w fun e w'=>e= .returned (.int .i64 (wrE c x))/\Below w.heap.size w w':=by
 obtain⟨W1,hW1⟩:∃W1,(w.alloc (.cells #[.string c.nm,.int .i64 (c.kd:Nat),.bool c.mu,.bool c.wo] 83)).alloc (.cells #[.int .i64 x.k,.int .i64 x.n,.string x.s] 24)=W1:=⟨_,rfl⟩;have hb1:Below w.heap.size w W1:=by rw[<-hW1];exact((Below.refl _ w).alloc (Nat.le_refl _) _).alloc (by simp) _
 have HC:Ac w.heap.size [.string c.nm,.int .i64 (c.kd:Nat),.bool c.mu,.bool c.wo] W1:=by rw[<-hW1];exact(Ac.new w #[.string c.nm,.int .i64 (c.kd:Nat),.bool c.mu,.bool c.wo] 83 (by simp)).below ((Below.refl _ _).alloc (Nat.le_refl _) _)
 have HX:Ac (w.heap.size+1) [.int .i64 x.k,.int .i64 x.n,.string x.s] W1:=by
  rw[<-hW1];have:=Ac.new (w.alloc (.cells #[.string c.nm,.int .i64 (c.kd:Nat),.bool c.mu,.bool c.wo] 83)) #[.int .i64 x.k,.int .i64 x.n,.string x.s] 24 (by simp);rw[World.size_alloc]at this;exact this
 have HR:Hid (Calls Tryz.prog 36 #[.agg #[.int .i64 x.k,.int .i64 x.n,.string x.s]] W1 fun e w'=>e= .returned (.bool (Ba x))/\Below W1.heap.size W1 w'):=E5 x.k x.n x.s W1 hs;have q0:=HX.cell 0 (by simp);have q1:=HX.cell 1 (by simp);have q2:=HX.cell 2 (by simp);simp only[List.getElem_cons_zero,List.getElem_cons_succ]at q0 q1 q2;have HC1:Hid _:=HC;have HX1:Hid _:=HX;have HB1:Hid _:=hb1;obtain⟨r,hr⟩:∃r,Ba x=r:=⟨_,rfl⟩;have HE:Hid (wrE c x=if r=false then 1 else if x.k≠0/\x.k≠(c.kd:Int)then 1 else if x.k=0/\c.mu=true then 13 else 0):=by show _=_;unfold wrE;rw[hr]
 rw[hr]at HR;clear hr HC HX hb1;go_enter Tryz.func62,Tryz.ntmps62;go_wp2_with fail;refine(show Calls _ _ _ _ _ from HR.out).mono ?_;rintro _ w2 ⟨rfl,hb2⟩;have HB2:Hid (Below w.heap.size w w2):=HB1.out.trans (hb2.mono HB1.out.size);have h0:=(HX1.out.below hb2).cell 0 (by simp);have h1:=(HC1.out.below hb2).cell 1 (by simp);have h2:=(HC1.out.below hb2).cell 2 (by simp);simp only[List.getElem_cons_zero,List.getElem_cons_succ]at h0 h1 h2;clear hb2 q0 q1 q2 hW1
 cases r
 ·go_wp2
  go_ret;exact⟨by rw[HE.out];simp,HB2.out⟩
 ·by_cases k0:x.k=0
  ·rw[k0]at h0
   have HE2:Hid (wrE c x=if c.mu=true then 13 else 0):=by show _=_;rw[HE.out];simp[k0]
   clear k0 HE
   cases hm:c.mu
   ·rw[hm]at h2
    go_wp2;go_ret;exact⟨by rw[HE2.out,hm];simp,HB2.out⟩
   ·rw[hm]at h2
    go_wp2;go_ret;exact⟨by rw[HE2.out,hm];simp,HB2.out⟩
  ·have kb:(x.k == 0)=false:=by simpa using k0
   have kn:(x.k != 0)=true:=by simpa using k0
   by_cases kk:x.k=(c.kd:Int)
   ·have HE2:Hid (wrE c x=0):=by show _=_;rw[HE.out];simp[kk];intro h;omega
    rw[kk]at h0;rcases hkd with hkd|hkd
    ·rw[hkd]at h0 h1
     clear k0 kk HE kb kn hkd;go_wp2;go_ret;exact⟨by rw[HE2.out];rfl,HB2.out⟩
    ·rw[hkd]at h0 h1
     clear k0 kk HE kb kn hkd;go_wp2;go_ret;exact⟨by rw[HE2.out];rfl,HB2.out⟩
   ·have kb2:(x.k == (c.kd:Int))=false:=by simpa using kk
    have kn2:(x.k != (c.kd:Int))=true:=by simpa using kk
    have HE2:Hid (wrE c x=1):=by show _=_;rw[HE.out];simp[k0,kk]
    clear k0 kk HE;go_wp2;go_ret;exact⟨by rw[HE2.out];rfl,HB2.out⟩
def okL (cs:List Col) (xs:List Vl):Prop:=∀i (h1:i<cs.length) (h2:i<xs.length),wrE cs[i] xs[i]=0
theorem Ft {c:Col} {x:Vl} (h:wrE c x=0):Ba x=true:=by
 unfold wrE at h
 by_cases e:Ba x=false
 ·rw[if_pos e]at h;cases h
 ·simpa using e
def VN (cs:List Col) (xs:List Vl) (w:World) (e:Ending) (w':World):Prop:=
 ((okL cs xs/\e= .returned (.tuple #[.string (An (Bp xs)),.nilIface]))\/(¬okL cs xs/\∃t v,e= .returned (.tuple #[.string ⟨#[]⟩,.iface t v])))/\Below w.heap.size w w'
set_option maxHeartbeats 2000000
theorem I8 {B n:Nat} {ac a:Option Addr} {cc cap:Nat} {cs:List Col} {xs:List Vl} (w:World) (hc:A8 B (.slice ac n cc) cs w) (hx:BY w a n xs) (hn:n<=2) (hcn:cs.length=n) (hkd:∀c∈cs,c.kd=1\/c.kd=2) (hf:∀x∈xs,CQ x):
  Calls Tryz.prog 25 #[.slice ac n cc,.slice a n cap] w fun e w'=>VN cs xs w e w':=by
 have hxn:=hx.1;have HX:Hid (BY w a n xs):=hx;have HC:Hid (A8 B (.slice ac n cc) cs w):=hc;have HXN:Hid (n=xs.length):=hxn;have HCN:Hid (cs.length=n):=hcn;have HF:Hid _:=hf;have HKD:Hid _:=hkd;clear hx hc hcn hf hkd hxn;go_enter Tryz.func25,Tryz.ntmps25;go_wp2_with fail;go_loopw [19] (fun i wr=>∃k:Nat,k<=n/\i= .int .i64 (k:Nat)/\Hid (Below w.heap.size w wr)/\Hid (∀i (h1:i<cs.length) (h2:i<xs.length),i<k->wrE cs[i] xs[i]=0)) (fun i _=>n+1-(intOf i).toNat)
 case atStart=>exact⟨0,Nat.zero_le _,rfl,Below.refl _ _,fun i _ _ h=>absurd h (Nat.not_lt_zero _)⟩
 case round=>
  obtain⟨k,hk,rfl,HB,HOK⟩:=hrel
  by_cases hlt:k<n
  ·have h1:(k:Int)<(n:Int):=by omega
   have hkc:k<cs.length:=by rw[HCN.out];exact hlt
   have hkx:k<xs.length:=by rw[<-HXN.out];exact hlt
   have HXW:Hid (BY wr a n xs):=HX.out.below HB.out (Nat.le_refl _);have HCW:Hid (A8 B (.slice ac n cc) cs wr):=A8.below HC.out HB.out;obtain⟨b,off,rfl,hbl⟩:=HXW.out.some (by omega)
   obtain⟨g1,g2,g3,g4⟩:wr.cell? ⟨b,off+k * 3,none⟩=some (.int .i64 xs[k].k)/\wr.cell? ⟨b,off+k * 3+1,none⟩=some (.int .i64 xs[k].n)/\wr.cell? ⟨b,off+k * 3+2,none⟩=some (.string xs[k].s)/\xs[k].s.size<=maxLen:=by
    obtain⟨_,_,h3⟩:=HXW.out;rcases h3 with h3|⟨b',o',e,_,hr⟩
    ·rw[h3]at hkx;simp at hkx
    ·cases e;exact hr k hkx
   obtain⟨g,cap',ev',hg1,hg2,k0,k1,k2,k3,hix0⟩:=HCW.out.at hkc;rw[HCN.out]at ev'
   cases ev'
   have hixc:=hix0 n hlt;have HKK:Hid (cs[k].kd=1\/cs[k].kd=2):=HKD.out _ (List.getElem_mem hkc)
   have HZ:Hid (wrE cs[k] xs[k]=0->∀i (h1:i<cs.length) (h2:i<xs.length),i<k+1->wrE cs[i] xs[i]=0):=fun h0 i h1 h2 h3=>by
    by_cases e:i=k
    ·subst e;exact h0
    ·exact HOK.out i h1 h2 (by omega)
   have HNZ:Hid (¬wrE cs[k] xs[k]=0->¬okL cs xs):=fun h hh=>h (hh k hkc hkx);obtain⟨c,hce⟩:∃c,cs[k]=c:=⟨_,rfl⟩;obtain⟨x,hxe⟩:∃x,xs[k]=x:=⟨_,rfl⟩;rw[hce]at k0 k1 k2 k3 HKK HZ HNZ;rw[hxe]at g1 g2 g3 g4 HZ HNZ;have hbw:Below wr.heap.size wr (wr.alloc (.cells #[.int .i64 x.k,.int .i64 x.n,.string x.s] 24)).drew:=((Below.refl _ wr).alloc (Nat.le_refl _) _).drew;have e0:=(hbw.cell (p:=⟨g,4 * k,none⟩) hg2).trans k0;have e1:=(hbw.cell (p:=⟨g,4 * k+1,none⟩) hg2).trans k1;have e2:=(hbw.cell (p:=⟨g,4 * k+2,none⟩) hg2).trans k2;have e3:=(hbw.cell (p:=⟨g,4 * k+3,none⟩) hg2).trans k3;have HBW:Hid (Below w.heap.size w (wr.alloc (.cells #[.int .i64 x.k,.int .i64 x.n,.string x.s] 24)).drew):=HB.out.trans (hbw.mono HB.out.size)
   have C0:Hid ((wr.alloc (.cells #[.int .i64 x.k,.int .i64 x.n,.string x.s] 24)).drew.cell? ⟨g,4 * k,none⟩=some (.string c.nm)/\(wr.alloc (.cells #[.int .i64 x.k,.int .i64 x.n,.string x.s] 24)).drew.cell? ⟨g,4 * k+1,none⟩=some (.int .i64 (c.kd:Nat))/\(wr.alloc (.cells #[.int .i64 x.k,.int .i64 x.n,.string x.s] 24)).drew.cell? ⟨g,4 * k+2,none⟩=some (.bool c.mu)/\(wr.alloc (.cells #[.int .i64 x.k,.int .i64 x.n,.string x.s] 24)).drew.cell? ⟨g,4 * k+3,none⟩=some (.bool c.wo)/\(wr.alloc (.cells #[.int .i64 x.k,.int .i64 x.n,.string x.s] 24)).drew.cell? ⟨wr.heap.size,0,none⟩=some (.int .i64 x.k)/\(wr.alloc (.cells #[.int .i64 x.k,.int .i64 x.n,.string x.s] 24)).drew.cell? ⟨wr.heap.size,1,none⟩=some (.int .i64 x.n)/\(wr.alloc (.cells #[.int .i64 x.k,.int .i64 x.n,.string x.s] 24)).drew.cell? ⟨wr.heap.size,2,none⟩=some (.string x.s)):=
    ⟨e0,e1,e2,e3,(Ac.new wr #[.int .i64 x.k,.int .i64 x.n,.string x.s] 24 (by simp)).drew.cell 0 (by simp),(Ac.new wr #[.int .i64 x.k,.int .i64 x.n,.string x.s] 24 (by simp)).drew.cell 1 (by simp),(Ac.new wr #[.int .i64 x.k,.int .i64 x.n,.string x.s] 24 (by simp)).drew.cell 2 (by simp)⟩
   have HW:Hid (∀wx,Calls Tryz.prog 62 #[.agg #[.string c.nm,.int .i64 (c.kd:Nat),.bool c.mu,.bool c.wo],.agg #[.int .i64 x.k,.int .i64 x.n,.string x.s]] wx fun e w'=>e= .returned (.int .i64 (wrE c x))/\Below wx.heap.size wx w'):=fun wx=>Pn c x wx g4 HKK.out;clear hce hxe e0 e1 e2 e3 hbw;go_wp2_with fail
   go_region_held3 (fun wx=>wx.cell? ⟨g,4 * k,none⟩=some (.string c.nm)/\wx.cell? ⟨g,4 * k+1,none⟩=some (.int .i64 (c.kd:Nat))/\wx.cell? ⟨g,4 * k+2,none⟩=some (.bool c.mu)/\wx.cell? ⟨g,4 * k+3,none⟩=some (.bool c.wo)/\wx.cell? ⟨wr.heap.size,0,none⟩=some (.int .i64 x.k)/\wx.cell? ⟨wr.heap.size,1,none⟩=some (.int .i64 x.n)/\wx.cell? ⟨wr.heap.size,2,none⟩=some (.string x.s)) (first|exact C0.out|exact C1.out) (first|(go_at_call 62;refine(show Calls _ _ _ _ _ from HW.out _).mono ?_;rintro _ w2 ⟨rfl,hb2⟩;have HB2:Hid (Below w.heap.size w w2):=HBW.out.trans (hb2.mono HBW.out.size);have C1:Hid (w2.cell? ⟨g,4 * k,none⟩=some (.string c.nm)/\w2.cell? ⟨g,4 * k+1,none⟩=some (.int .i64 (c.kd:Nat))/\w2.cell? ⟨g,4 * k+2,none⟩=some (.bool c.mu)/\w2.cell? ⟨g,4 * k+3,none⟩=some (.bool c.wo)/\w2.cell? ⟨wr.heap.size,0,none⟩=some (.int .i64 x.k)/\w2.cell? ⟨wr.heap.size,1,none⟩=some (.int .i64 x.n)/\w2.cell? ⟨wr.heap.size,2,none⟩=some (.string x.s)):=(fun⟨a0,a1,a2,a3,a4,a5,a6⟩=>⟨(hb2.cell (World.block_lt_of_cell? _ _ a0)).trans a0,(hb2.cell (World.block_lt_of_cell? _ _ a1)).trans a1,(hb2.cell (World.block_lt_of_cell? _ _ a2)).trans a2,(hb2.cell (World.block_lt_of_cell? _ _ a3)).trans a3,(hb2.cell (World.block_lt_of_cell? _ _ a4)).trans a4,(hb2.cell (World.block_lt_of_cell? _ _ a5)).trans a5,(hb2.cell (World.block_lt_of_cell? _ _ a6)).trans a6⟩) C0.out;clear hb2))
   clear g1 g2 g3 k0 k1 k2 k3
   by_cases h0:wrE c x=0
   ·have HZ2:Hid _:=HZ.out h0
    rw[h0];clear HZ HNZ h0;go_wp2_with fail;go_roundw
    case rel=>exact⟨k+1,by omega,by go_num,HB2,HZ2⟩
    case measure=>simp[intOf];omega
   ·have HNO:Hid _:=HNZ.out h0
    have hbq:(wrE c x != 0)=true:=by simpa using h0
    obtain⟨q,hq⟩:∃q,wrE c x=q:=⟨_,rfl⟩;rw[hq]at hbq ⊢;clear HZ HNZ h0 hq;go_wp2;go_ret2;exact⟨.inr ⟨HNO.out,_,_,rfl⟩,HB2.out.alloc HB2.out.size _⟩
  ·have h1:¬(k:Int)<(n:Int):=by omega
   obtain rfl:n=k:=by omega
   have HOKL:Hid (okL cs xs):=fun i h1 h2=>HOK.out i h1 h2 (by have:=HCN.out;omega)
   have hrt:∀x∈xs,Ba x=true:=fun x hx=>by
    obtain⟨i,hi,rfl⟩:=List.getElem_of_mem hx;exact Ft (HOKL.out i (by have:=HCN.out;have:=HXN.out;omega) hi)
   have hle:=Ix xs hrt;have HK:Hid _:=RQ a n cap xs wr (HX.out.below HB.out (Nat.le_refl _)) HF.out (by have:=HXN.out;omega) hrt;have hsz:(An (Bp xs)).size<=100:=by rw[Bh];have:=HXN.out;omega
   obtain⟨K,hK⟩:∃K,An (Bp xs)=K:=⟨_,rfl⟩;have HKK:Hid (K=An (Bp xs)):=hK.symm;rw[hK]at HK hsz;have hsz2:¬(100:Int)<(K.size:Int):=by omega
   clear hle hrt hK;go_wp2_with fail;refine(show Calls _ _ _ _ _ from HK.out).mono ?_;rintro _ w2 ⟨rfl,hb2⟩;have HB2:Hid (Below w.heap.size w w2):=HB.out.trans (hb2.mono HB.out.size);clear hb2 HK;go_wp2;go_ret2;exact⟨.inl ⟨HOKL.out,by rw[<-HKK.out];rfl⟩,HB2.out⟩
set_option maxHeartbeats 1000000
theorem Kz {n:Nat} {ac:Option Addr} {cc:Nat} (xs:List Vl) (w:World) (hn:xs.length=n) (hl:n<=2) (hr:∀x∈xs,Ba x=true) (hf:∀x∈xs,CQ x):
  Calls Tryz.prog 78 #[.slice ac n cc,.string (An (Bp xs))] w fun e w'=>∃a cap,e= .returned (.tuple #[.slice a n cap,.nilIface])/\w'.ownsRow w.heap.size 24 3 (.slice a n cap) n (Bq xs)/\Below w.heap.size w w':=by
 have hle:=Ix xs hr
 have HRD:Hid (Calls Tryz.prog 100 #[.string (An (Bp xs))] w (JJ w (some xs))):=by
  have h1:=Kl (An (Bp xs)) w (by rw[Bh];omega);have h2:=M3 xs hr hf (An (Bp xs)).size (by rw[Bh];exact Nat.le_refl _);rw[A0,h2]at h1;exact h1
 obtain⟨K,hK⟩:∃K,An (Bp xs)=K:=⟨_,rfl⟩;rw[hK]at HRD ⊢;have HXS:Hid (∀x∈xs,x.s.size<=maxLen):=fun x hx=>EC (hr x hx);have HN:Hid _:=hn;clear hle hK hr hf hn;go_enter Tryz.func78,Tryz.ntmps78;go_wp2_with fail;refine(show Calls _ _ _ _ _ from HRD.out).mono ?_;rintro _ w2 ⟨hb2,v,rfl,ho2⟩;obtain⟨a,cap,rfl,hvr,_⟩:=EV ho2 HXS.out (by have:=HN.out;unfold maxLen;omega);rw[HN.out]at ho2 ⊢;have HO:Hid _:=ho2;have HB:Hid _:=hb2;clear ho2 hb2 hvr HRD;go_wp2;go_ret2;exact⟨a,cap,rfl,HO.out,HB.out⟩
end
section
open Go.RowKit Go.Maps
def DC (nm s:ByteArray):ByteArray:=nm++⟨#[0]⟩++s
def Eu (r:Nat):List UInt8:=[Aq ((r:Int) / 16777216),Aq ((r:Int) / 65536),Aq ((r:Int) / 256),Aq (r:Int)]
def Bu (nm s:ByteArray) (r:Nat):ByteArray:=DC nm s++⟨#[0]⟩++⟨(Eu r).toArray⟩
theorem Ec (nm s:ByteArray):(DC nm s).size=nm.size+1+s.size:=by unfold DC;rw[ByteArray.size_append,ByteArray.size_append];rfl
theorem F2 (nm s:ByteArray) (r:Nat):(Bu nm s r).data.toList=nm.data.toList++0::(s.data.toList++0::Eu r):=by simp[Bu,DC]
theorem KS (nm s:ByteArray) (r:Nat):(Bu nm s r).size=nm.size+s.size+6:=by
 unfold Bu;rw[ByteArray.size_append,ByteArray.size_append,Ec];show nm.size+1+s.size+1+4=_;omega
theorem IL (nm s:ByteArray) (hn:nm.size<=1000) (hs:s.size<=1000) (w:World):Calls Tryz.prog 94 #[.string nm,.string s] w fun e w'=>e= .returned (.string (DC nm s))/\w'=w:=by
 have h1:=Dk nm ⟨#[0]⟩ (by show nm.size+1<=_;omega);have h2:=Dk (nm++⟨#[0]⟩) s (by rw[ByteArray.size_append];show nm.size+1+s.size<=_;omega);go_enter Tryz.func94,Tryz.ntmps94;go_wp2;go_ret;exact⟨rfl,rfl⟩
theorem Vu (w:World) (a b c d:UInt8) {p q r s:Int} (h1:p=(a.toNat:Int)) (h2:q=(b.toNat:Int)) (h3:r=(c.toNat:Int)) (h4:s=(d.toNat:Int)):Ea 0 (.slice (some ⟨w.heap.size,0,none⟩) 4 4) [a,b,c,d] (w.alloc (.cells #[.int .u8 p,.int .u8 q,.int .u8 r,.int .u8 s] 5)):=by
 subst h1 h2 h3 h4;exact World.ownsRow_lit (base:=0) (e:=5) (size:=1) w #[.int .u8 (a.toNat:Nat),.int .u8 (b.toNat:Nat),.int .u8 (c.toNat:Nat),.int .u8 (d.toNat:Nat)] 4 (Nat.zero_le _) (by decide) rfl
set_option maxHeartbeats 1000000
theorem Fe (nm s:ByteArray) (r:Nat) (hn:nm.size<=1000) (hs:s.size<=1000) (w:World):Calls Tryz.prog 179 #[.string nm,.string s,.int .i64 (r:Nat)] w fun e w'=>e= .returned (.string (Bu nm s r))/\Below w.heap.size w w':=by
 have h1:=Dk (DC nm s) ⟨#[0]⟩ (by rw[Ec];show nm.size+1+s.size+1<=_;omega);have h2:=Dk (DC nm s++⟨#[0]⟩) ⟨(Eu r).toArray⟩ (by rw[ByteArray.size_append,Ec];show nm.size+1+s.size+1+4<=_;omega);have b0:=AS ((r:Int) / 16777216);have b1:=AS ((r:Int) / 65536);have b2:=AS ((r:Int) / 256);have b3:=AS (r:Int);have HB:Hid (Below w.heap.size w (w.alloc (.cells #[.int .u8 ((Aq ((r:Int) / 16777216)).toNat:Int),.int .u8 ((Aq ((r:Int) / 65536)).toNat:Int),.int .u8 ((Aq ((r:Int) / 256)).toNat:Int),.int .u8 ((Aq (r:Int)).toNat:Int)] 5)).drew):=((Below.refl _ w).alloc (Nat.le_refl _) _).drew;have C0:Hid ((convert 199 9 (.slice (some ⟨w.heap.size,0,none⟩) 4 4)).run Tryz.prog (w.alloc (.cells #[.int .u8 ((Aq ((r:Int) / 16777216)).toNat:Int),.int .u8 ((Aq ((r:Int) / 65536)).toNat:Int),.int .u8 ((Aq ((r:Int) / 256)).toNat:Int),.int .u8 ((Aq (r:Int)).toNat:Int)] 5)).drew= .ok (.string ⟨(Eu r).toArray⟩) (w.alloc (.cells #[.int .u8 ((Aq ((r:Int) / 16777216)).toNat:Int),.int .u8 ((Aq ((r:Int) / 65536)).toNat:Int),.int .u8 ((Aq ((r:Int) / 256)).toNat:Int),.int .u8 ((Aq (r:Int)).toNat:Int)] 5)).drew):=Fu (World.ownsRow.drew (Vu w _ _ _ _ rfl rfl rfl rfl)) (by simp[Eu]);go_enter Tryz.func179,Tryz.ntmps179;go_wp2_with fail;clear b0 b1 b2 b3
 go_region_held3 (fun wx=>(convert 199 9 (.slice (some ⟨w.heap.size,0,none⟩) 4 4)).run Tryz.prog wx= .ok (.string ⟨(Eu r).toArray⟩) wx) (exact C0.out) (first|(go_at_call 94;refine(IL nm s hn hs _).mono ?_;rintro _ w9 ⟨rfl,h9⟩;obtain rfl:=h9.symm;clear h9))
 go_wp2;go_ret;exact⟨rfl,HB.out⟩
def Ee (nm:ByteArray):Bool:=decide (nm.size=0) || decide (16<nm.size) || decide ((0:UInt8)∈nm.data.toList)
def CP (nm:ByteArray) (r:Int):Int:=if Ee nm then 1 else if r<1\/1073741824<r then 2 else 0
theorem IN {nm:ByteArray} (h:nm.size=0):nm.toList=[]:=by
 rw[ByteArray.toList_eq,GP h]
theorem JO {nm:ByteArray} (h:¬nm.size=0):¬nm.toList=[]:=by
 rw[ByteArray.toList_eq];intro e;exact h (by show nm.data.size=0;rw[<-Array.length_toList,e];rfl)
theorem RZ (nm:ByteArray):decide (0<=Lib.indexByte nm.data.toList 0)=decide ((0:UInt8)∈nm.data.toList):=by
 by_cases h:(0:UInt8)∈nm.data.toList
 ·rw[decide_eq_true h,decide_eq_true ((CL _ _).1.2 h)]
 ·rw[decide_eq_false h,decide_eq_false (fun e=>h ((CL _ _).1.1 e))]
theorem EK (nm:ByteArray) (r:Int) (w:World):Calls Tryz.prog 126 #[.string nm,.int .i64 r] w fun e w'=>e= .returned (FZ (CP nm r))/\w'=w:=by
 have hE1:∀n:Int,n≠0->FZ n= .iface 101 (.int .i64 n):=fun n hn=>by unfold FZ;rw[if_neg hn]
 have hE0:FZ 0= .nilIface:=rfl
 by_cases h0:nm.size=0
 ·have hl:=IN h0
  have hc:CP nm r=1:=by simp[CP,Ee,h0]
  rw[hc,hE1 1 (by decide)];obtain rfl:=GP h0;clear h0 hc hE1 hE0;go_enter Tryz.func126,Tryz.ntmps126;go_wp2;go_ret;exact⟨rfl,rfl⟩
 ·have hl:=JO h0
  have hq:nm.toList.isEmpty=false:=List.isEmpty_eq_false_iff.2 hl
  by_cases h1:16<nm.size
  ·have i1:(16:Int)<(nm.size:Int):=by omega
   have hc:CP nm r=1:=by simp[CP,Ee,h1]
   rw[hc,hE1 1 (by decide)];clear h0 hc h1 hE1 hE0 hl;go_enter Tryz.func126,Tryz.ntmps126;go_wp2;go_ret;exact⟨rfl,rfl⟩
  ·have i1:¬(16:Int)<(nm.size:Int):=by omega
   by_cases h2:(0:UInt8)∈nm.data.toList
   ·have hc:CP nm r=1:=by simp[CP,Ee,h2]
    rw[hc,hE1 1 (by decide)];have hd:=RZ nm;rw[decide_eq_true h2]at hd;clear h0 hc h1 h2 hE1 hE0 hl;go_enter Tryz.func126,Tryz.ntmps126;go_wp2_with fail;refine(Tryz.strings_Contains_one nm 0 w).mono ?_;rintro _ w9 ⟨rfl,h9⟩;obtain rfl:=h9.symm;rw[hd];clear h9 hd;go_wp2;go_ret;exact⟨rfl,rfl⟩
   ·have hb:Ee nm=false:=by simp only[Ee,decide_eq_false h0,decide_eq_false h1,decide_eq_false h2,Bool.or_self]
    have hd:=RZ nm;rw[decide_eq_false h2]at hd
    by_cases h3:r<1
    ·have hc:CP nm r=2:=by rw[CP,hb,if_neg (by decide),if_pos (.inl h3)]
     rw[hc,hE1 2 (by decide)];clear h0 hc h1 h2 hE1 hE0 hl hb;go_enter Tryz.func126,Tryz.ntmps126;go_wp2_with fail;refine(Tryz.strings_Contains_one nm 0 w).mono ?_;rintro _ w9 ⟨rfl,h9⟩;obtain rfl:=h9.symm;rw[hd];clear h9 hd;go_wp2;go_ret;exact⟨rfl,rfl⟩
    ·by_cases h4:1073741824<r
     ·have hc:CP nm r=2:=by rw[CP,hb,if_neg (by decide),if_pos (.inr h4)]
      rw[hc,hE1 2 (by decide)];clear h0 hc h1 h2 hE1 hE0 hl hb;go_enter Tryz.func126,Tryz.ntmps126;go_wp2_with fail;refine(Tryz.strings_Contains_one nm 0 w).mono ?_;rintro _ w9 ⟨rfl,h9⟩;obtain rfl:=h9.symm;rw[hd];clear h9 hd;go_wp2;go_ret;exact⟨rfl,rfl⟩
     ·have hc:CP nm r=0:=by rw[CP,hb,if_neg (by decide),if_neg (by omega)]
      rw[hc,hE0];clear h0 hc h1 h2 hE1 hE0 hl hb;go_enter Tryz.func126,Tryz.ntmps126;go_wp2_with fail;refine(Tryz.strings_Contains_one nm 0 w).mono ?_;rintro _ w9 ⟨rfl,h9⟩;obtain rfl:=h9.symm;rw[hd];clear h9 hd;go_wp2;go_ret;exact⟨rfl,rfl⟩
theorem PO (bt:Nat) (w:World):Calls Tryz.prog 52 #[.pointer (some ⟨bt,0,none⟩)] w fun e w'=>e= .returned (.tuple #[.pointer (some ⟨w.heap.size,0,none⟩),.nilIface])/\w'=w.alloc (.cells #[.pointer (some ⟨bt,0,none⟩)] 174):=by
 go_enter Tryz.func52,Tryz.ntmps52;go_wp2;go_ret2;exact⟨rfl,rfl⟩
end
end Go.Proofs.YtihnldkgeelehaaGreatDoor

namespace Go.Proofs.YtihnldkgeelehaaGreatDoor
end Go.Proofs.YtihnldkgeelehaaGreatDoor
