/- StoreFinds: part 32. -/
import Derived.Test.YtihnldkgeelehaaGreatDoorF30
import Derived.Test.YtihnldkgeelehaaGreatDoorF31
set_option maxRecDepth 100000
set_option maxHeartbeats 4000000
namespace Go.Proofs.YtihnldkgeelehaaGreatDoor
section
open Go.RowKit
theorem P9 (f:Nat):∀(i acc:Nat) (l:List UInt8),acc<128 ^ i->(rnF f i acc l).1<128 ^ (i+f)/\(rnF f i acc l).2<=i+f/\(rnF f i acc l).2<=i+l.length:=by
 induction f with
 |zero=>intro i acc l h;simp[rnF];exact Nat.lt_of_le_of_lt (Nat.zero_le _) (Nat.pow_pos (by omega))
 |succ f ih=>
  intro i acc l h;have hp:0<128 ^ (i+(f+1)):=Nat.pow_pos (by omega)
  cases l with
  |nil=>simp[rnF,hp]
  |cons c l=>
   have hc:=UInt8.toNat_lt c;have e:128 ^ (i+1)=128 ^ i * 128:=Nat.pow_succ ..;have e2:i+(f+1)=i+1+f:=by omega
   unfold rnF;split
   ·rename_i h1
    split
    ·simp[hp]
    ·refine⟨?_,by simp only;omega,by simp⟩
     have h3:128 ^ (i+1)<=128 ^ (i+(f+1)):=Nat.pow_le_pow_right (by omega) (by omega);have h2:c.toNat * 128 ^ i<=127 * 128 ^ i:=Nat.mul_le_mul_right _ (by omega);simp only;omega
   ·have h2:c.toNat % 128 * 128 ^ i<=127 * 128 ^ i:=Nat.mul_le_mul_right _ (by omega)
    have:=ih (i+1) (acc+c.toNat % 128 * 128 ^ i) l (by omega);rw[e2];simp only[List.length_cons];omega
theorem Fx (l:List UInt8):(rnL l).1<34359738368/\(rnL l).2<=5/\(rnL l).2<=l.length:=by
 have:=P9 5 0 0 l (by omega);simp only[rnL];omega
def rpL (l:List UInt8) (p:Pl):Option (Pl×Nat):=
 if(rnL l).2=0 then none
 else if(rnL l).1 % 2=1 then
  (if(rnL (l.drop (rnL l).2)).2=0\/(rnL l).1 / 2=0 then none
   else if CS p ⟨p.r+((rnL l).1 / 2:Nat),((rnL (l.drop (rnL l).2)).1:Nat)⟩then some (⟨p.r+((rnL l).1 / 2:Nat),((rnL (l.drop (rnL l).2)).1:Nat)⟩,(rnL l).2+(rnL (l.drop (rnL l).2)).2)else none)
 else if CS p ⟨p.r,p.a+((rnL l).1 / 2:Nat)⟩then some (⟨p.r,p.a+((rnL l).1 / 2:Nat)⟩,(rnL l).2)else none
def rpV:Option (Pl×Nat)->Value
 |none=> .tuple #[.agg #[.int .i64 0,.int .i64 0],.int .i64 0]
 |some (q,n)=> .tuple #[.agg #[.int .i64 q.r,.int .i64 q.a],.int .i64 n]
theorem FB (s:ByteArray) (n k:Nat) (h1:(rnL s.data.toList).1=n) (h2:(rnL s.data.toList).2=k) (w:World) (hs:s.size<=1000000):
  Calls Tryz.prog 188 #[.string s] w fun e w'=>e= .returned (.tuple #[.int .i64 n,.int .i64 k])/\w'=w:=by
 rw[<-h1,<-h2];exact L4 s w hs
theorem Ph (s:ByteArray) (k:Nat):(s.extract k s.size).data.toList=s.data.toList.drop k:=by
 rw[ByteArray.data_extract,Array.toList_extract,List.extract_eq_take_drop,List.take_of_length_le];rw[List.length_drop];have:s.data.toList.length=s.size:=by simp
 omega
theorem S7 (w:World) (p q:Pl):AC (w.heap.size+1) ⟨0,0⟩ (((w.alloc (.cells #[.int .i64 p.r,.int .i64 p.a] 118)).alloc (.cells #[.int .i64 0,.int .i64 0] 118)).alloc (.cells #[.int .i64 q.r,.int .i64 q.a] 118))/\
  AC (w.heap.size+1+1) q (((w.alloc (.cells #[.int .i64 p.r,.int .i64 p.a] 118)).alloc (.cells #[.int .i64 0,.int .i64 0] 118)).alloc (.cells #[.int .i64 q.r,.int .i64 q.a] 118))/\
  Below w.heap.size w (((w.alloc (.cells #[.int .i64 p.r,.int .i64 p.a] 118)).alloc (.cells #[.int .i64 0,.int .i64 0] 118)).alloc (.cells #[.int .i64 q.r,.int .i64 q.a] 118)):=by
 obtain⟨w1,h1⟩:∃w1,w.alloc (.cells #[.int .i64 p.r,.int .i64 p.a] 118)=w1:=⟨_,rfl⟩;have s1:w1.heap.size=w.heap.size+1:=by rw[<-h1];simp
 have b1:Below w.heap.size w w1:=by rw[<-h1];exact(Below.refl _ _).alloc (Nat.le_refl _) _
 rw[h1];obtain⟨w2,h2⟩:∃w2,w1.alloc (.cells #[.int .i64 0,.int .i64 0] 118)=w2:=⟨_,rfl⟩;have s2:w2.heap.size=w.heap.size+1+1:=by rw[<-h2];simp[s1]
 have v2:AC (w.heap.size+1) ⟨0,0⟩ w2:=by have:=AC.new w1;rw[s1,h2]at this;exact this
 have b2:Below w.heap.size w w2:=by rw[<-h2];exact b1.alloc (by omega) _
 rw[h2];have b3:Below w2.heap.size w2 (w2.alloc (.cells #[.int .i64 q.r,.int .i64 q.a] 118)):=(Below.refl _ _).alloc (Nat.le_refl _) _;have v3:=AC.box w2 q;rw[s2]at v3;exact⟨v2.below b3,v3,b2.trans (b3.mono b2.size)⟩
theorem FA (s:ByteArray) (p:Pl) (hp:Ij p) (w:World) (hs:s.size<=1000000):
  Calls Tryz.prog 143 #[.string s,.agg #[.int .i64 p.r,.int .i64 p.a]] w fun e w'=>e= .returned (rpV (rpL s.data.toList p))/\Below w.heap.size w w':=by
 obtain⟨p1,p2,p3,p4⟩:=hp;obtain⟨b1,b2,b3⟩:=Fx s.data.toList;obtain⟨n,hn⟩:∃n,(rnL s.data.toList).1=n:=⟨_,rfl⟩;obtain⟨k,hk⟩:∃k,(rnL s.data.toList).2=k:=⟨_,rfl⟩;rw[hn]at b1;rw[hk]at b2 b3;rw[show s.data.toList.length=s.size by simp]at b3;have HN:Hid ((rnL s.data.toList).1=n/\(rnL s.data.toList).2=k):=⟨hn,hk⟩;obtain⟨V,hV⟩:∃V,rpV (rpL s.data.toList p)=V:=⟨_,rfl⟩;have HV:Hid (rpV (rpL s.data.toList p)=V):=hV;rw[hV];have e2:((n / 2:Nat):Int)=(n:Int) / 2:=by omega
 simp only[rpL,hn,hk,e2]at hV;have HU:Hid _:=hV;clear hV hn hk HV e2;go_enter Tryz.func143,Tryz.ntmps143;go_wp2_with fail;refine(FB s n k HN.out.1 HN.out.2 _ hs).mono ?_;rintro _ wq ⟨rfl,hwq⟩;subst hwq
 by_cases hk0:k=0
 ·subst hk0
  have HR:Hid (V= .tuple #[.agg #[.int .i64 0,.int .i64 0],.int .i64 0]):=by show _=_;rw[<-HU.out];rfl
  clear HU;go_wp2;rw[HR.out];exact bodyPost_ret (v:= .tuple #[.agg #[.int .i64 0,.int .i64 0],.int .i64 0]) (by simp[results,Tryz.results143,go_sem]) rfl ⟨rfl,((Below.refl _ _).alloc (Nat.le_refl _) _).alloc (by simp) _⟩
 ·have j0:((k:Int) == 0)=false:=by simp[hk0]
  by_cases hodd:n % 2=1
  ·have j1:((n:Int) % 2 == 1)=true:=by simp;omega
   obtain⟨c1,c2,c3⟩:=Fx (s.data.toList.drop k);obtain⟨x,hx⟩:∃x,(rnL (s.data.toList.drop k)).1=x:=⟨_,rfl⟩;obtain⟨m,hm⟩:∃m,(rnL (s.data.toList.drop k)).2=m:=⟨_,rfl⟩;have HM:Hid ((rnL (s.extract k s.size).data.toList).1=x/\(rnL (s.extract k s.size).data.toList).2=m):=by rw[Ph];exact⟨hx,hm⟩
   have HU:Hid _:=HU.out;simp only[hk0,hodd,hx,hm,if_true,if_false]at HU;rw[hx]at c1;rw[hm]at c2 c3;clear hx hm;go_wp2_with fail;refine(FB (s.extract k s.size) x m HM.out.1 HM.out.2 _ (by simp;omega)).mono ?_;rintro _ wq ⟨rfl,hwq⟩;subst hwq
   by_cases hm0:m=0
   ·have j2:((m:Int) == 0)=true:=by simp[hm0]
    have HR:Hid (V= .tuple #[.agg #[.int .i64 0,.int .i64 0],.int .i64 0]):=by show _=_;rw[<-HU.out,if_pos (.inl hm0)];rfl
    clear HU hm0;go_wp2;rw[HR.out];exact bodyPost_ret (v:= .tuple #[.agg #[.int .i64 0,.int .i64 0],.int .i64 0]) (by simp[results,Tryz.results143,go_sem]) rfl ⟨rfl,(((Below.refl _ _).alloc (Nat.le_refl _) _).alloc (by simp) _).alloc (by simp;omega) _⟩
   ·have j2:((m:Int) == 0)=false:=by simp[hm0]
    by_cases hh:n / 2=0
    ·have j3:((n:Int) / 2 == 0)=true:=by simp;omega
     have HR:Hid (V= .tuple #[.agg #[.int .i64 0,.int .i64 0],.int .i64 0]):=by show _=_;rw[<-HU.out,if_pos (.inr hh)];rfl
     clear HU hh;go_wp2;rw[HR.out];exact bodyPost_ret (v:= .tuple #[.agg #[.int .i64 0,.int .i64 0],.int .i64 0]) (by simp[results,Tryz.results143,go_sem]) rfl ⟨rfl,(((Below.refl _ _).alloc (Nat.le_refl _) _).alloc (by simp) _).alloc (by simp;omega) _⟩
    ·have j3:((n:Int) / 2 == 0)=false:=by simp;omega
     obtain⟨bb,hbb⟩:∃bb,CS p ⟨p.r+(n:Int) / 2,(x:Int)⟩=bb:=⟨_,rfl⟩
     have HU2:Hid (V=rpV (if bb then some (⟨p.r+(n:Int) / 2,(x:Int)⟩,k+m)else none)):=by
      show _=_;rw[<-HU.out,if_neg (by omega),hbb]
     clear HU;go_wp2_with fail;refine(FX p ⟨p.r+(n:Int) / 2,(x:Int)⟩ bb hbb _).mono ?_;rintro _ w4 ⟨rfl,hb4⟩;obtain⟨v1,v2,hbw⟩:=S7 w p ⟨p.r+(n:Int) / 2,(x:Int)⟩;have HV1:Hid (AC (w.heap.size+1) ⟨0,0⟩ w4):=v1.below hb4;have HV2:Hid (AC (w.heap.size+1+1) ⟨p.r+(n:Int) / 2,(x:Int)⟩ w4):=v2.below hb4;have HB4:Hid (Below w.heap.size w w4):=hbw.trans (hb4.mono hbw.size);clear v1 v2 hbw hb4;obtain⟨y1,y2,y3,y4,y5⟩:=HV1.out;obtain⟨y6,y7,_,_,_⟩:=HV2.out
     cases bb
     ·go_wp2
      rw[HU2.out];obtain⟨z1,z2,_,_,_⟩:=HV1.out.set ⟨0,0⟩;exact bodyPost_ret (v:= .tuple #[.agg #[.int .i64 0,.int .i64 0],.int .i64 0]) (by simp[results,Tryz.results143,go_sem,z1,z2]) rfl ⟨rfl,(HB4.out.setCell (p:=⟨_,0,none⟩) (by show _<=w.heap.size+1;omega) _).setCell (p:=⟨_,1,none⟩) (by show _<=w.heap.size+1;omega) _⟩
     ·go_wp2
      rw[HU2.out];obtain⟨z1,z2,_,_,_⟩:=HV1.out.set ⟨p.r+(n:Int) / 2,(x:Int)⟩;exact bodyPost_ret (v:= .tuple #[.agg #[.int .i64 (⟨p.r+(n:Int) / 2,(x:Int)⟩:Pl).r,.int .i64 (⟨p.r+(n:Int) / 2,(x:Int)⟩:Pl).a],.int .i64 ((k:Int)+(m:Int))]) (by simp[results,Tryz.results143,go_sem,z1,z2]) rfl ⟨by simp[rpV],(HB4.out.setCell (p:=⟨_,0,none⟩) (by show _<=w.heap.size+1;omega) _).setCell (p:=⟨_,1,none⟩) (by show _<=w.heap.size+1;omega) _⟩
  ·have j1:((n:Int) % 2 == 1)=false:=by simp;omega
   have HU:Hid _:=HU.out;simp only[hk0,hodd,if_false]at HU;obtain⟨bb,hbb⟩:∃bb,CS p ⟨p.r,p.a+(n:Int) / 2⟩=bb:=⟨_,rfl⟩
   have HU2:Hid (V=rpV (if bb then some (⟨p.r,p.a+(n:Int) / 2⟩,k)else none)):=by
    show _=_;rw[<-HU.out,hbb]
   clear HU;go_wp2_with fail;refine(FX p ⟨p.r,p.a+(n:Int) / 2⟩ bb hbb _).mono ?_;rintro _ w4 ⟨rfl,hb4⟩;obtain⟨v1,v2,hbw⟩:=S7 w p ⟨p.r,p.a+(n:Int) / 2⟩;have HV1:Hid (AC (w.heap.size+1) ⟨0,0⟩ w4):=v1.below hb4;have HV2:Hid (AC (w.heap.size+1+1) ⟨p.r,p.a+(n:Int) / 2⟩ w4):=v2.below hb4;have HB4:Hid (Below w.heap.size w w4):=hbw.trans (hb4.mono hbw.size);clear v1 v2 hbw hb4;obtain⟨y1,y2,y3,y4,y5⟩:=HV1.out;obtain⟨y6,y7,_,_,_⟩:=HV2.out
   cases bb
   ·go_wp2
    rw[HU2.out];obtain⟨z1,z2,_,_,_⟩:=HV1.out.set ⟨0,0⟩;exact bodyPost_ret (v:= .tuple #[.agg #[.int .i64 0,.int .i64 0],.int .i64 0]) (by simp[results,Tryz.results143,go_sem,z1,z2]) rfl ⟨rfl,(HB4.out.setCell (p:=⟨_,0,none⟩) (by show _<=w.heap.size+1;omega) _).setCell (p:=⟨_,1,none⟩) (by show _<=w.heap.size+1;omega) _⟩
   ·go_wp2
    rw[HU2.out];obtain⟨z1,z2,_,_,_⟩:=HV1.out.set ⟨p.r,p.a+(n:Int) / 2⟩;exact bodyPost_ret (v:= .tuple #[.agg #[.int .i64 (⟨p.r,p.a+(n:Int) / 2⟩:Pl).r,.int .i64 (⟨p.r,p.a+(n:Int) / 2⟩:Pl).a],.int .i64 ((k:Int))]) (by simp[results,Tryz.results143,go_sem,z1,z2]) rfl ⟨by simp[rpV],(HB4.out.setCell (p:=⟨_,0,none⟩) (by show _<=w.heap.size+1;omega) _).setCell (p:=⟨_,1,none⟩) (by show _<=w.heap.size+1;omega) _⟩
def rdF:Nat->Pl->List UInt8->Option (List Pl)
 |_,_,[]=>some []
 |0,_,_::_=>none
 |f+1,p,c::l=>match rpL (c::l) p with
  |none=>none
  |some (q,n)=>(rdF f q ((c::l).drop n)).map (q::·)
def K0 (l:List UInt8):Option (List Pl):=rdF l.length ⟨0,0⟩ l
theorem OF {l:List UInt8} {p q:Pl} {n:Nat} (h:rpL l p=some (q,n)):1<=n/\n<=l.length/\CS p q=true:=by
 have hb:=Fx l;have hb2:=Fx (l.drop (rnL l).2);rw[List.length_drop]at hb2;unfold rpL at h;split at h
 ·cases h
 ·split at h
  ·split at h
   ·cases h
   ·split at h
    ·rename_i hf
     cases h
     exact⟨by omega,by omega,hf⟩
    ·cases h
  ·split at h
   ·rename_i hf
    cases h
    exact⟨by omega,by omega,hf⟩
   ·cases h
theorem Rt (f:Nat) (p:Pl) (l:List UInt8) (hl:0<l.length) (hf:l.length<=f) (R:Option (List Pl)) (ps:List Pl) (h:(rdF f p l).map (ps++·)=R):
  (rpL l p=none->R=none)/\∀q n,rpL l p=some (q,n)->(rdF (f-1) q (l.drop n)).map ((ps++[q])++·)=R:=by
 cases l with
 |nil=>simp at hl
 |cons c l=>
  cases f with
  |zero=>simp at hf
  |succ f=>
   rw[rdF]at h;refine⟨fun e=> ?_,fun q n e=> ?_⟩
   ·rw[e]at h;exact h.symm
   ·rw[e]at h
    rw[<-h];simp only[Nat.add_sub_cancel]
    cases rdF f q ((c::l).drop n)<;>simp
theorem IW (s:ByteArray) (p:Pl) (hp:Ij p) (h:rpL s.data.toList p=none) (w:World) (hs:s.size<=1000000):
  Calls Tryz.prog 143 #[.string s,.agg #[.int .i64 p.r,.int .i64 p.a]] w fun e w'=>e= .returned (.tuple #[.agg #[.int .i64 0,.int .i64 0],.int .i64 0])/\Below w.heap.size w w':=by
 have:=FA s p hp w hs;rw[h]at this;exact this
theorem IV (s:ByteArray) (p q:Pl) (n:Nat) (hp:Ij p) (h:rpL s.data.toList p=some (q,n)) (w:World) (hs:s.size<=1000000):
  Calls Tryz.prog 143 #[.string s,.agg #[.int .i64 p.r,.int .i64 p.a]] w fun e w'=>e= .returned (.tuple #[.agg #[.int .i64 q.r,.int .i64 q.a],.int .i64 n])/\Below w.heap.size w w':=by
 have:=FA s p hp w hs;rw[h]at this;exact this
theorem UI (p:Pl):∀u∈plc [p],u.oneCell'=true:=OJ [p]
theorem To (w:World) (q:Pl) (t:TypeId):∀j u,(plc [q])[j]? =some u->(w.alloc (.cells #[.int .i64 q.r,.int .i64 q.a] t)).cell? ((⟨w.heap.size,0,none⟩:Addr).add j)=some u:=by
 intro j u hj;rw[Go.WideShapes.add_plain]
 have hj2:j=0\/j=1:=by
  have:=(List.getElem?_eq_some_iff.1 hj).1;simp[plc]at this;omega
 rcases hj2 with rfl|rfl<;>simp[plc]at hj ⊢<;>exact hj
theorem PN {w:World} {B B':Nat} {t:TypeId} {z:Nat} {v:Value} {n:Nat} {xs:List Value} (h:w.ownsRow B t z v n xs) (hb:B'<=B):w.ownsRow B' t z v n xs:=by
 refine⟨h.1,?_⟩;rcases h.2 with h2|⟨g,cap,cur,h1,h2,h3⟩
 ·exact .inl h2
 ·exact .inr ⟨g,cap,cur,h1,Nat.le_trans hb h2,h3⟩
def OD:Value->Nat
 | .string t=>t.size
 |_=>0
theorem PE (s:ByteArray) (w:World) (hs:s.size<=900000):
  Calls Tryz.prog 98 #[.string s] w fun e w'=>((∃ps v,K0 s.data.toList=some ps/\e= .returned (.tuple #[v,.nilIface])/\ps.length<=900000/\w'.ownsRow w.heap.size 118 2 v ps.length (plc ps))\/
   (K0 s.data.toList=none/\e= .returned (.tuple #[.slice none 0 0,.iface 101 (.int .i64 3)])))/\Below w.heap.size w w':=by
 obtain⟨i0,hi,hz0,hz1,hz2⟩:=CC Oc;obtain⟨R,hR⟩:∃R,K0 s.data.toList=R:=⟨_,rfl⟩
 have HR:Hid ((rdF s.size ⟨0,0⟩ s.data.toList).map ([]++·)=R):=by
  show _=_;rw[<-hR,K0,show s.data.toList.length=s.size by simp]
  cases rdF s.size ⟨0,0⟩ s.data.toList<;>simp
 rw[hR];clear hR;go_enter Tryz.func98,Tryz.ntmps98;go_wp2;go_loopw [0,4] (fun x v wr=>∃(t:ByteArray) (p:Pl) (ps:List Pl) (f:Nat),t.size<=f/\ps.length+t.size<=s.size/\x= .string t/\Hid (AC w.heap.size p wr/\Below w.heap.size w wr/\(rdF f p t.data.toList).map (ps++·)=R)/\Hid (wr.ownsRow (w.heap.size+1) 118 2 v ps.length (plc ps))/\Hid (Ij p)) (fun x _ _=>OD x)
 case atStart=>exact⟨s,⟨0,0⟩,[],s.size,Nat.le_refl _,by simp,rfl,⟨AC.new w,(Below.refl _ _).alloc (Nat.le_refl _) _,HR.out⟩,World.ownsRow_nil _ _ _ _,⟨by decide,by decide,by decide,by decide⟩⟩
 case round=>
  clear HR;obtain⟨t,p,ps,f,hf,hps,rfl,hz,hown,hah⟩:=hrel
  by_cases h0:0<t.size
  ·have hst:=Rt f p t.data.toList (by simpa using h0) (by simpa using hf) R ps hz.out.2.2
   have HV:Hid (AC w.heap.size p wr):=hz.out.1;have HB:Hid (Below w.heap.size w wr):=hz.out.2.1;obtain⟨c1,c2,f1,f2,hlt1⟩:=HV.out;clear hz
   cases hrp:rpL t.data.toList p with
   |none=>
    have e:=hst.1 hrp;subst e;clear hst;go_wp2_with fail;refine(IW t p hah.out hrp _ (by omega)).mono ?_;rintro _ w2 ⟨rfl,hb2⟩;go_wp2;go_ret2;exact⟨rfl,(HB.out.trans (hb2.mono HB.out.size)).alloc (by have:=HB.out.size;have:=hb2.size;omega) _⟩
   |some y=>
    obtain⟨q,n⟩:=y;have HST:Hid _:=hst.2 q n hrp;obtain⟨n1,n2,n3⟩:=OF hrp;rw[show t.data.toList.length=t.size by simp]at n2;clear hst;go_wp2_with fail;refine(IV t p q n hah.out hrp _ (by omega)).mono ?_;rintro _ w2 ⟨rfl,hb2⟩;have HV2:Hid (AC w.heap.size p w2):=HV.out.below hb2;have HB2:Hid (Below w.heap.size w w2):=HB.out.trans (hb2.mono HB.out.size);have HO2:Hid (w2.ownsRow (w.heap.size+1) 118 2 u4 ps.length (plc ps)):=FT hown.out hb2;have hs2:w.heap.size+1<=w2.heap.size:=by have:=hb2.size;omega
    clear hb2 HV HB hown c1 c2 f1 f2 hlt1 hrp;obtain⟨⟨k1,k2⟩,⟨k3,k4⟩,_⟩:=DQ n3;have j0:((n:Int) == 0)=false:=by simp;omega
    have HBX:Hid (AC w2.heap.size q (w2.alloc (.cells #[.int .i64 q.r,.int .i64 q.a] 118))):=AC.box w2 q;have HA:Hid (Below w2.heap.size w2 (w2.alloc (.cells #[.int .i64 q.r,.int .i64 q.a] 118))):=(Below.refl _ _).alloc (Nat.le_refl _) _;have HO3:Hid ((w2.alloc (.cells #[.int .i64 q.r,.int .i64 q.a] 118)).ownsRow (w.heap.size+1) 118 2 u4 ps.length (plc ps)):=FT HO2.out HA.out;have hsz3:(w2.alloc (.cells #[.int .i64 q.r,.int .i64 q.a] 118)).heap.size=w2.heap.size+1:=by simp
    have HN:Hid (u4.ownBlock≠some w2.heap.size):=FS HO2.out _ (.inr (Nat.le_refl _))
    go_wp2_with (at_builtin;refine wpList_append_lies _ rfl _ _ 114 rfl (w.heap.size+1) 118 i0 (.agg #[.int .i64 0,.int .i64 0]) 2 16 Tryz.underlying114 hi hz0 hz1 hz2 rfl (by decide) _ _ _ rfl (HO3.out.alloc _) ⟨w2.heap.size+1,0,none⟩ 1 1 (plc [q]) rfl rfl (by have:=To (w2.alloc (.cells #[.int .i64 q.r,.int .i64 q.a] 118)) q 118;rw[hsz3]at this;exact this) (UI q) (by decide) (by simp[maxLen];omega) (by omega) (by simp;omega) _ rfl ?_)
    intro g cap w3 hown' hgrow hg _
    have HG:Hid (Gr (w2.alloc (.cells #[.int .i64 q.r,.int .i64 q.a] 118)) w3 u4 (.slice (some ⟨g,0,none⟩) (ps.length+1) cap)):=Gr.alloc _ ⟨hgrow,fun k hk=>by
     have e:g=k:=by simpa [GU]using hk
     subst e;rcases hg with h|h
     ·exact .inl h
     ·exact .inr (by rw[h];simp)⟩
    have HV3:Hid (AC w.heap.size p w3):=AC.gr (HV2.out.below HA.out) HG.out (FS HO3.out _ (.inl (by omega)));have HX3:Hid (AC w2.heap.size q w3):=AC.gr HBX.out HG.out HN.out;have HB3:Hid (Below w.heap.size w w3):=(HB2.out.trans (HA.out.mono HB2.out.size)).trans (HG.out.below (fun k hk=>by have:=(HO3.out.lt k hk).1;omega) (by omega));have HO4:Hid (w3.ownsRow (w.heap.size+1) 118 2 (.slice (some ⟨g,0,none⟩) (ps.length+1) cap) (ps++[q]).length (plc (ps++[q]))):=L7 hown' (by simp) (by rw[FQ]);clear hown' hgrow hg HG HBX HA HO3 HN HO2 HV2 HB2 hsz3;obtain⟨c1,c2,f1,f2,hlt1⟩:=HV3.out;obtain⟨c3,c4,_,_,_⟩:=HX3.out;go_wp2;go_roundw
    case rel=>
     refine⟨t.extract n t.size,q,ps++[q],f-1,by simp;omega,by simp;omega,by simp,⟨HV3.out.set q,(HB3.out.setCell (p:=⟨_,0,none⟩) (Nat.le_refl _) _).setCell (p:=⟨_,1,none⟩) (Nat.le_refl _) _,?_⟩,Fy (Fy HO4.out _ _ (by omega) _) _ _ (by omega) _,⟨by omega,by omega,by omega,by omega⟩⟩;rw[Ph];exact HST.out
    case measure=>simp[OD];omega
  ·obtain rfl:t=⟨#[]⟩:=by
    cases t with
    |mk d=>
     have:d.size=0:=Nat.eq_zero_of_not_pos h0;simp[Array.size_eq_zero_iff.1 this]
   have e:R=some ps:=by
    have:=hz.out.2.2
    cases f<;>simpa [rdF]using this.symm
   subst e;go_wp2;go_ret2;exact⟨⟨_,rfl,by omega,PN hown.out (by omega)⟩,hz.out.2.1⟩
theorem ofNat_toNat {n:Nat} (h:n<256):(UInt8.ofNat n).toNat=n:=by simp;omega
theorem U2 (n:Nat):∀(f i acc:Nat) (rest:List UInt8),(AT n).length<=f->(n≠0\/i=0)->rnF f i acc (AT n++rest)=(acc+n * 128 ^ i,i+(AT n).length):=by
 induction n using Nat.strongRecOn with
 |ind n ih=>
  intro f i acc rest hf h0
  by_cases hn:n<128
  ·rw[DK hn]at hf ⊢
   cases f with
   |zero=>simp at hf
   |succ f=>
    simp only[List.singleton_append,rnF,ofNat_toNat (show n<256 by omega),if_pos hn,List.length_singleton];rw[if_neg (by omega)]
  ·rw[Ji hn]at hf ⊢
   cases f with
   |zero=>simp at hf
   |succ f=>
    simp only[List.length_cons]at hf;simp only[List.cons_append,rnF,ofNat_toNat (show n % 128+128<256 by omega),List.length_cons];rw[if_neg (by omega),show(n % 128+128) % 128=n % 128 by omega];rw[ih (n / 128) (by omega) f (i+1) _ rest (by omega) (.inl (by omega))];have e:n=n % 128+128 * (n / 128):=by omega
    have e2:n * 128 ^ i=n % 128 * 128 ^ i+n / 128 * 128 ^ (i+1):=by
     conv=>lhs;rw[e]
     rw[Nat.add_mul,Nat.pow_succ,Nat.mul_comm 128 (n / 128),Nat.mul_assoc,Nat.mul_comm 128 (128 ^ i)]
    rw[e2,Nat.add_assoc];congr 1;omega
theorem Lv (n:Nat) (hn:n<34359738368) (rest:List UInt8):rnL (AT n++rest)=(n,(AT n).length):=by
 have:=U2 n 5 0 0 rest (Fc 4 n (by omega)) (.inr rfl);simpa [rnL]using this
theorem U0 {p q:Pl} (hp:Ij p) (h:CS p q=true) (rest:List UInt8):rpL (Fl p q++rest) p=some (q,(Fl p q).length):=by
 obtain⟨⟨a1,a2⟩,⟨a3,a4⟩,h5⟩:=DQ h;obtain⟨b1,b2,b3,b4⟩:=hp;unfold Fl
 by_cases e:q.r=p.r
 ·have hlt:p.a<q.a:=by rcases h5 with⟨_,h⟩|⟨h,_⟩;exact h;exact absurd e h
  obtain⟨N,hN⟩:∃N,(2 * (q.a-p.a)).toNat=N:=⟨_,rfl⟩;rw[if_pos e,hN];have hr:=Lv N (by omega) rest;have hl:=Fb N
  have hq:(⟨p.r,p.a+((N / 2:Nat):Int)⟩:Pl)=q:=by
   obtain⟨qr,qa⟩:=q;simp only[Pl.mk.injEq]at *;omega
  unfold rpL;rw[hr];simp only;rw[if_neg (by omega),if_neg (by omega),hq,if_pos h]
 ·have hlt:p.r<q.r:=by rcases h5 with⟨h,_⟩|⟨_,h⟩;exact absurd h e;exact h
  obtain⟨N,hN⟩:∃N,(2 * (q.r-p.r)+1).toNat=N:=⟨_,rfl⟩;obtain⟨M,hM⟩:∃M,q.a.toNat=M:=⟨_,rfl⟩;rw[if_neg e,hN,hM,List.append_assoc];have hr:=Lv N (by omega) (AT M++rest);have hr2:=Lv M (by omega) rest;have hl:=Fb N;have hl2:=Fb M
  have hq:(⟨p.r+((N / 2:Nat):Int),(M:Int)⟩:Pl)=q:=by
   obtain⟨qr,qa⟩:=q;simp only[Pl.mk.injEq]at *;omega
  unfold rpL;rw[hr];simp only[List.drop_left];rw[hr2];simp only;rw[if_neg (by omega),if_pos (by omega),if_neg (by omega),hq,if_pos h,List.length_append]
theorem U7 (l:List Pl):∀(p:Pl) (f:Nat),Ij p->As p l=true->(AJ p l).length<=f->rdF f p (AJ p l)=some l:=by
 induction l with
 |nil=>intro p f _ _ _;cases f<;>rfl
 |cons q l ih=>
  intro p f hp h hf;simp only[As,Bool.and_eq_true]at h;obtain⟨⟨a1,a2⟩,⟨a3,a4⟩,_⟩:=DQ h.1;have hr:=U0 hp h.1 (AJ q l);have hpos:=(OF hr).1;simp only[AJ]at hf ⊢;rw[List.length_append]at hf
  cases f with
  |zero=>omega
  |succ f=>
   cases hc:Fl p q++AJ q l with
   |nil=>
    have:=congrArg List.length hc;rw[List.length_append]at this;simp at this;rw[this.1]at hpos;simp at hpos
   |cons c t=>
    rw[rdF,<-hc,hr];simp only[List.drop_left];rw[ih q f ⟨by omega,by omega,by omega,by omega⟩ h.2 (by omega)];rfl
theorem Rs (l:List Pl) (h:DG l=true):K0 (Ej l)=some l:=U7 l ⟨0,0⟩ _ ⟨by decide,by decide,by decide,by decide⟩ h (Nat.le_refl _)
end
section
open Go.RowKit Go.Maps
structure WOk (w:ByteArray):Prop where
 nz:(0:UInt8)∉w.data.toList
 pos:1<=w.size
 le:w.size<=12
theorem UO {c:UInt8} (h:isL c=true):c≠0:=fun e=>by rw[e]at h;revert h;decide
theorem UL {c:UInt8} (h:c≠0):low c≠0:=fun e=>by
 have h1:=ON c;rw[e]at h1;have h2:c.toNat≠0:=fun e2=>h (UInt8.toNat_inj.1 (by rw[e2];rfl));unfold G5 at h1;have h0:(0:UInt8).toNat=0:=rfl;rw[h0]at h1;split at h1<;>omega
theorem Lq:∀(l cur:List UInt8),(∀c∈cur,isL c=true)->∀r∈ER cur l,r≠[]/\∀c∈r,isL c=true
 | [],cur,hc,r,hr=>by
   unfold ER at hr
   cases cur with
   |nil=>simp at hr
   |cons a b=>simp at hr;subst hr;exact⟨by simp,hc⟩
 |c::l,cur,hc,r,hr=>by
  unfold ER at hr
  cases h:isL c
  ·rw[h]at hr
   simp only[Bool.false_eq_true,if_false]at hr;rcases List.mem_append.1 hr with hr|hr
   ·cases cur with
    |nil=>simp at hr
    |cons a b=>simp at hr;subst hr;exact⟨by simp,hc⟩
   ·exact Lq l [] (by simp) r hr
  ·rw[h,if_pos rfl]at hr
   refine Lq l (cur++[c]) (fun x hx=> ?_) r hr;rcases List.mem_append.1 hx with hx|hx
   ·exact hc x hx
   ·obtain rfl:=List.mem_singleton.1 hx;exact h
theorem FJ:∀(l cur:List UInt8),2 * (ER cur l).length<=l.length+(if cur=[]then 1 else 2)
 | [],cur=>by
   unfold ER
   cases cur<;>simp
 |c::l,cur=>by
  unfold ER
  cases h:isL c
  ·have ih:=FJ l []
   rw[if_pos rfl]at ih;simp only[Bool.false_eq_true,if_false,List.length_append,List.length_cons]
   cases cur with
   |nil=>simp;omega
   |cons a b=>simp;omega
  ·have ih:=FJ l (cur++[c])
   rw[if_neg (by simp)]at ih;rw[if_pos rfl,List.length_cons];split<;>omega
theorem ES (s:ByteArray):2 * (Ah s.data.toList).length<=s.size+1:=by
 have:=FJ s.data.toList [];rw[if_pos rfl,Array.length_toList]at this;unfold Ah;rw[List.length_map];exact this
theorem OE:∀(t:List (ByteArray×ByteArray)) (s:ByteArray),(∀x∈t,(0:UInt8)∉x.2.data.toList)->(0:UInt8)∉s.data.toList->1<=s.size->(0:UInt8)∉(AQ t s).data.toList/\1<=(AQ t s).size
 | [],s,_,h0,h1=>⟨h0,h1⟩
 |(e,r)::t,s,ht,h0,h1=>by
  unfold AQ;split
  ·split
   ·rename_i h3
    constructor
    ·rw[ByteArray.data_append,Array.toList_append]
     intro hm;rcases List.mem_append.1 hm with hm|hm
     ·rw[ByteArray.data_extract,Array.toList_extract,List.extract_eq_take_drop]at hm
      exact h0 (List.mem_of_mem_drop (List.mem_of_mem_take hm))
     ·exact ht (e,r) (by simp) hm
    ·rw[ByteArray.size_append,ByteArray.size_extract];omega
   ·exact⟨h0,h1⟩
  ·exact OE t s (fun x hx=>ht x (by simp[hx])) h0 h1
theorem Lg {l:List UInt8} {w:ByteArray} (h:w∈Ah l):WOk w:=by
 unfold Ah at h;obtain⟨r,hr,rfl⟩:=List.mem_map.1 h;obtain⟨hne,hl⟩:=Lq l [] (by simp) r hr
 have h0:(0:UInt8)∉((Ca r).take 12):=fun hm=>by
  obtain⟨c,hc,e⟩:=List.mem_map.1 (List.mem_of_mem_take hm);exact UL (UO (hl c hc)) e
 have h1:1<=(⟨((Ca r).take 12).toArray⟩:ByteArray).size:=by
  show 1<=((Ca r).take 12).toArray.size;rw[List.size_toArray,List.length_take];unfold Ca;rw[List.length_map];have:0<r.length:=List.length_pos_iff.2 hne;omega
 obtain⟨g1,g2⟩:=OE CT ⟨((Ca r).take 12).toArray⟩ (by decide) (by simpa using h0) h1;exact⟨g1,g2,Kk r⟩
theorem Mx {r:Nat} (h:r<4294967296):(Aq ((r:Int) / 16777216)).toNat=r / 16777216/\(Aq ((r:Int) / 65536)).toNat=r / 65536 % 256/\(Aq ((r:Int) / 256)).toNat=r / 256 % 256/\(Aq (r:Int)).toNat=r % 256:=by
 have a:=AS ((r:Int) / 16777216);have b:=AS ((r:Int) / 65536);have c:=AS ((r:Int) / 256);have d:=AS (r:Int);rw[Fr]at a b c d;omega
theorem Ta {r s:Nat} (h:r<s) (hs:s<4294967296):Eu r<Eu s:=by
 obtain⟨a0,a1,a2,a3⟩:=Mx (show r<4294967296 by omega);obtain⟨b0,b1,b2,b3⟩:=Mx hs;unfold Eu;rw[List.cons_lt_cons_iff,List.cons_lt_cons_iff,List.cons_lt_cons_iff,List.cons_lt_cons_iff];simp only[UInt8.lt_iff_toNat_lt,<-UInt8.toNat_inj,a0,a1,a2,a3,b0,b1,b2,b3];omega
structure Kh (n:ByteArray):Prop where
 nz:(0:UInt8)∉n.data.toList
 pos:1<=n.size
 le:n.size<=16
theorem NQ {nm:ByteArray} (h:Ee nm=false):Kh nm:=by
 unfold Ee at h;simp only[Bool.or_eq_false_iff,decide_eq_false_iff_not]at h;exact⟨h.2,by omega,by omega⟩
theorem LS {nm:ByteArray} {r:Int} (h:CP nm r=0):Kh nm/\1<=r/\r<=1073741824:=by
 unfold CP at h;split at h
 ·cases h
 ·split at h
  ·cases h
  ·rename_i h1 h2
   exact⟨NQ (by simpa using h1),by omega,by omega⟩
theorem D4 {n n' w w':ByteArray} {r r':Nat} (hn':(0:UInt8)∉n'.data.toList) (hw':(0:UInt8)∉w'.data.toList) (hr':r'<4294967296) (h:bl n n'=true\/(n=n'/\(bl w w'=true\/(w=w'/\r<r')))):bl (Bu n w r) (Bu n' w' r')=true:=by
 rw[Ch,F2,F2];rcases h with h|⟨rfl,h⟩
 ·exact Iv _ _ ((Ch _ _).1 h) hn' _ _
 ·rw[show n.data.toList++0::(w.data.toList++0::Eu r)=(n.data.toList++[0])++(w.data.toList++0::Eu r) by simp,show n.data.toList++0::(w'.data.toList++0::Eu r')=(n.data.toList++[0])++(w'.data.toList++0::Eu r') by simp]
  refine De _ _ _ ?_;rcases h with h|⟨rfl,h⟩
  ·exact Iv _ _ ((Ch _ _).1 h) hw' _ _
  ·refine De _ _ _ ?_
   rw[List.cons_lt_cons_iff];exact .inr ⟨rfl,Ta h hr'⟩
theorem Ju {n n' w w':ByteArray} {r r':Nat} (hn:(0:UInt8)∉n.data.toList) (hw:(0:UInt8)∉w.data.toList) (hr:r<4294967296) (hn':(0:UInt8)∉n'.data.toList) (hw':(0:UInt8)∉w'.data.toList) (hr':r'<4294967296) (h:Bu n w r=Bu n' w' r'):n=n'/\w=w'/\r=r':=by
 have no:∀ {a b:ByteArray},bl a b=true->a=b->False:=fun h1 h2=>by rw[h2,Ar]at h1;cases h1
 rcases DW n n' with h1|h1|h1
 ·exact(no (D4 (w:=w) (r:=r) hn' hw' hr' (.inl h1)) h).elim
 ·refine⟨h1,?_⟩
  rcases DW w w' with h2|h2|h2
  ·exact(no (D4 (r:=r) hn' hw' hr' (.inr ⟨h1,.inl h2⟩)) h).elim
  ·refine⟨h2,?_⟩
   rcases Nat.lt_trichotomy r r' with h3|h3|h3
   ·exact(no (D4 hn' hw' hr' (.inr ⟨h1,.inr ⟨h2,h3⟩⟩)) h).elim
   ·exact h3
   ·exact(no (D4 hn hw hr (.inr ⟨h1.symm,.inr ⟨h2.symm,h3⟩⟩)) h.symm).elim
  ·exact(no (D4 (r:=r') hn hw hr (.inr ⟨h1.symm,.inl h2⟩)) h.symm).elim
 ·exact(no (D4 (w:=w') (r:=r') hn hw hr (.inl h1)) h.symm).elim
def AB (r:Nat):Nat->List ByteArray->ByteArray->List Pl
 |_,[],_=>[]
 |i,x::t,w=>if x=w then⟨(r:Int),(i:Int)⟩::AB r (i+1) t w else AB r (i+1) t w
structure Ris (r:Nat) (l:List Pl):Prop where
 row:∀q∈l,q.r=(r:Int)/\0<=q.a/\q.a<20
 ri:l.Pairwise (fun x y=>x.a<y.a)
theorem Ris.tail {r:Nat} {q:Pl} {l:List Pl} (h:Ris r (q::l)):Ris r l:=⟨fun x hx=>h.row x (by simp[hx]),(List.pairwise_cons.1 h.ri).2⟩
theorem IS {r:Nat} (hr:1<=r) (hr2:r<=1073741824):∀(l:List Pl) (p:Pl),Ris r l->((p.r=(r:Int)/\∀q∈l,p.a<q.a)\/(0<=p.r/\p.r<(r:Int)))->As p l=true
 | [],_,_,_=>rfl
 |q::l,p,h,hp=>by
  obtain⟨q1,q2,q3⟩:=h.row q (by simp);rw[As,Bool.and_eq_true];refine⟨?_,IS hr hr2 l q h.tail (.inl ⟨q1,(List.pairwise_cons.1 h.ri).1⟩)⟩;unfold CS okB Nl QD;simp only[Bool.and_eq_true,decide_eq_true_eq];refine⟨⟨⟨⟨by omega,by omega⟩,by omega⟩,by omega⟩,?_⟩;rcases hp with⟨h1,h2⟩|⟨h1,h2⟩
  ·rw[if_pos (by rw[h1,q1]),if_pos (h2 q (by simp))];decide
  ·rw[if_neg (by omega),if_pos (by omega)];decide
theorem Ris.right {r:Nat} {l:List Pl} (h:Ris r l) (hr:1<=r) (hr2:r<=1073741824):DG l=true:=
 IS hr hr2 l ⟨0,0⟩ h (.inr ⟨by decide,by show(0:Int)<(r:Int);omega⟩)
theorem OG {r:Nat}:∀(l:List Pl) (lo:Int),Ris r l->(∀q∈l,lo<=q.a)->(l.length:Int)<=20-lo\/l=[]
 | [],_,_,_=> .inr rfl
 |q::l,lo,h,hlo=>by
  have h1:=hlo q (by simp);obtain⟨_,_,h3⟩:=h.row q (by simp)
  left
  rcases OG l (lo+1) h.tail (fun x hx=>by have:=(List.pairwise_cons.1 h.ri).1 x hx;omega)with h2|rfl
  ·rw[List.length_cons];omega
  ·simp;omega
theorem Ris.len {r:Nat} {l:List Pl} (h:Ris r l):l.length<=20:=by
 rcases OG l 0 h (fun q hq=>(h.row q hq).2.1)with h1|rfl
 ·omega
 ·simp
theorem V5 {n:Nat} (h:n<128):(AT n).length=1:=by rw[DK h];rfl
theorem My {r:Nat}:∀(l:List Pl) (p:Pl),Ris r l->p.r=(r:Int)->0<=p.a->(∀q∈l,p.a<q.a)->(AJ p l).length<=l.length
 | [],_,_,_,_,_=>Nat.le_refl _
 |q::l,p,h,h1,h2,h3=>by
  obtain⟨q1,q2,q3⟩:=h.row q (by simp);have ih:=My l q h.tail q1 q2 (List.pairwise_cons.1 h.ri).1;have hq:=h3 q (by simp);rw[AJ,List.length_append,List.length_cons]
  have:(Fl p q).length=1:=by
   unfold Fl;rw[if_pos (by rw[q1,h1])];exact V5 (by omega)
  omega
theorem Ris.enc {r:Nat} {l:List Pl} (h:Ris r l) (hr:1<=r) (hr2:r<=1073741824):(Ej l).length<=l.length+5:=by
 unfold Ej
 cases l with
 |nil=>simp[AJ]
 |cons q l=>
  obtain⟨q1,q2,q3⟩:=h.row q (by simp);have ih:=My l q h.tail q1 q2 (List.pairwise_cons.1 h.ri).1;rw[AJ,List.length_append,List.length_cons]
  have:(Fl ⟨0,0⟩ q).length<=6:=by
   unfold Fl;rw[if_neg (by show ¬q.r=0;omega),List.length_append];have h1:(AT q.a.toNat).length=1:=V5 (by omega);have h2:=Fc 4 (2 * (q.r-0)+1).toNat (by omega);show(AT (2 * (q.r-0)+1).toNat).length+(AT q.a.toNat).length<=6;omega
  omega
theorem MC (r:Nat):∀(ws:List ByteArray) (i:Nat) (w:ByteArray) (x:Pl),x∈AB r i ws w->∃j,ws[j]? =some w/\x=⟨(r:Int),((i+j:Nat):Int)⟩
 | [],_,_,_,h=>by cases h
 |y::t,i,w,x,h=>by
  unfold AB at h
  have go:x∈AB r (i+1) t w->∃j,(y::t)[j]? =some w/\x=⟨(r:Int),((i+j:Nat):Int)⟩:=fun h=>by
   obtain⟨j,h1,h2⟩:=MC r t (i+1) w x h;exact⟨j+1,h1,by rw[h2];congr 2;omega⟩
  by_cases e:y=w
  ·rw[if_pos e]at h
   rcases List.mem_cons.1 h with h|h
   ·exact⟨0,by rw[<-e];rfl,h⟩
   ·exact go h
  ·rw[if_neg e]at h
   exact go h
theorem MA (r:Nat):∀(ws:List ByteArray) (i:Nat) (w:ByteArray),i+ws.length<=20->Ris r (AB r i ws w)
 | [],_,_,_=>⟨fun q h=>(by cases h),List.Pairwise.nil⟩
 |y::t,i,w,hi=>by
  simp only[List.length_cons]at hi;have ih:=MA r t (i+1) w (by omega);unfold AB;split
  ·refine⟨fun q hq=> ?_,List.Pairwise.cons (fun x hx=> ?_) ih.ri⟩
   ·rcases List.mem_cons.1 hq with rfl|hq
    ·exact⟨rfl,by show(0:Int)<=(i:Int);omega,by show(i:Int)<20;omega⟩
    ·exact ih.row q hq
   ·obtain⟨j,_,e⟩:=MC r t (i+1) w x hx
    rw[e];show(i:Int)<((i+1+j:Nat):Int);omega
  ·exact ih
theorem K9 (r:Nat):∀(ws:List ByteArray) (i:Nat) (w:ByteArray),w∈ws->0<(AB r i ws w).length
 | [],_,_,h=>by cases h
 |y::t,i,w,h=>by
  unfold AB;split
  ·simp
  ·rename_i hne
   rcases List.mem_cons.1 h with h|h
   ·exact absurd h.symm hne
   ·exact K9 r t (i+1) w h
structure Pc where
 n:ByteArray
 w:ByteArray
 r:Nat
 l:List Pl
def Pc.pr (c:Pc):Pr:=⟨Bu c.n c.w c.r,⟨(Ej c.l).toArray⟩⟩
structure Pc.Ok (c:Pc):Prop where
 n:Kh c.n
 w:WOk c.w
 lo:1<=c.r
 hi:c.r<=1073741824
 ris:Ris c.r c.l
 pos:0<c.l.length
theorem Pc.Ok.right {c:Pc} (h:c.Ok):DG c.l=true:=h.ris.right h.lo h.hi
theorem Pc.Ok.len {c:Pc} (h:c.Ok):c.l.length<=20:=h.ris.len
theorem Pc.Ok.enc {c:Pc} (h:c.Ok):(Ej c.l).length<=c.l.length+5:=h.ris.enc h.lo h.hi
theorem Pc.Ok.pr {c:Pc} (h:c.Ok):c.pr.Ok/\c.pr.sz<=41+c.l.length:=by
 have h1:=h.w.le;have h2:=h.n.le;have h3:=h.enc;have h4:=h.len;have h5:=h.pos;have hk:c.pr.k.size=c.n.size+c.w.size+6:=KS _ _ _
 have hi:c.pr.i.size<=c.l.length+5:=by
  show(Ej c.l).toArray.size<=_;rw[List.size_toArray];exact h3
 refine⟨⟨by omega,by omega,by omega⟩,?_⟩;unfold Pr.sz;omega
theorem Pc.Ok.key {c d:Pc} (h:c.Ok) (k:d.Ok) (e:c.pr.k=d.pr.k):c.n=d.n/\c.w=d.w/\c.r=d.r:=
 Ju h.n.nz h.w.nz (by have:=h.hi;omega) k.n.nz k.w.nz (by have:=k.hi;omega) e
def Dw:List Pc->Nat
 | []=>0
 |c::l=>c.l.length+Dw l
theorem If:∀(a b:List Pc),Dw (a++b)=Dw a+Dw b
 | [],b=>by simp[Dw]
 |c::a,b=>by rw[List.cons_append,Dw,Dw,If a b];omega
theorem QA {L:List Pc} {k:Nat} (hk:k<L.length):Dw (L.take (k+1))=Dw (L.take k)+L[k].l.length:=by
 rw[List.take_succ_eq_append_getElem hk,If];simp[Dw]
theorem I2 {L:List Pc} (hL:∀c∈L,c.Ok):Dw L<=20 * L.length:=by
 induction L with
 |nil=>simp[Dw]
 |cons c l ih=>
  have h1:=ih (fun x hx=>hL x (by simp[hx]));have h2:=(hL c (by simp)).len;rw[Dw,List.length_cons];omega
theorem TN {L:List Pc} (hL:∀c∈L,c.Ok):L.length<=Dw L:=by
 induction L with
 |nil=>simp
 |cons c l ih=>
  have h1:=ih (fun x hx=>hL x (by simp[hx]));have h2:=(hL c (by simp)).pos;rw[Dw,List.length_cons];omega
theorem Us {L:List Pc} (hL:∀c∈L,c.Ok):szL (L.map Pc.pr)<=42 * Dw L:=by
 induction L with
 |nil=>simp[szL]
 |cons c l ih=>
  have h1:=ih (fun x hx=>hL x (by simp[hx]));have h2:=(hL c (by simp)).pr.2;have h3:=(hL c (by simp)).pos;rw[List.map_cons,szL,Dw];omega
end
end Go.Proofs.YtihnldkgeelehaaGreatDoor
