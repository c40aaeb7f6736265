/- StoreFinds: part 24. -/
import Derived.Test.YtihnldkgeelehaaGreatDoorF23
set_option maxRecDepth 100000
set_option maxHeartbeats 4000000
namespace Go.Proofs.YtihnldkgeelehaaGreatDoor
section
open Go.RowKit Go.Maps
def BV (bc bt bp:Nat) (bd:Sts) (bm N:Nat) (L:List Tb) (w:World):Prop:=∃N1 up V T,N1<=N/\Fs bc bt bp bd bm N1 up V T w/\Cat L T.all
section
variable {bc bt bp:Nat} {bd:Sts} {bm N Z:Nat} {L:List Tb} {w w':World}
theorem BV.below (h:BV bc bt bp bd bm N L w) (hb:Below w.heap.size w w'):BV bc bt bp bd bm N L w':=by
 obtain⟨N1,up,V,T,h1,h2,h3⟩:=h;exact⟨N1,up,V,T,h1,h2.below hb,h3⟩
theorem BV.mono {N':Nat} (h:BV bc bt bp bd bm N L w) (hN:N<=N'):BV bc bt bp bd bm N' L w:=by
 obtain⟨N1,up,V,T,h1,h2,h3⟩:=h;exact⟨N1,up,V,T,by omega,h2,h3⟩
theorem BV.lt (h:BV bc bt bp bd bm N L w):bp<w.heap.size/\bm<w.heap.size/\bd.bd<w.heap.size:=by
 obtain⟨N1,up,V,T,h1,h2,h3⟩:=h;exact h2.tw.lt
theorem BV.ok (h:BV bc bt bp bd bm N L w):∀t∈L,t.Ok:=by
 obtain⟨N1,up,V,T,h1,h2,h3⟩:=h;exact h3.ok
theorem BV.srt (h:BV bc bt bp bd bm N L w):L.Pairwise (fun a b=>bl a.nm b.nm=true):=by
 obtain⟨N1,up,V,T,h1,h2,h3⟩:=h;exact h3.srt
theorem BV.prs (h:BV bc bt bp bd bm N L w):PrS bc bt bp bd bm N (300 * L.length) (·∈L.flatMap Tb.prs) w:=by
 obtain⟨N1,up,V,T,h1,h2,h3⟩:=h;refine⟨N1,up,V,T,h1,h2,?_,h3.mem⟩;rw[h3.all h2.sorted];exact I0 L h3.ok
theorem OU {l:List Pr} (h:l.Pairwise (fun a b=>bl a.k b.k=true)):l.Pairwise (fun a b=>a.k≠b.k):=h.imp (fun e=>Ih e)
theorem Q3 (h:BV bc bt bp bd bm N L w) (nm:ByteArray) (hnm:nm.size<=140737488351232) (hN:N+5000<1000000):
  Calls Tryz.prog 43 #[.pointer (some ⟨bc,0,none⟩),.string nm] w fun e w'=>((∀t∈L,t.nm≠nm)/\e= .returned (.iface 101 (.int .i64 7))/\Below w.heap.size w w')\/((∃t∈L,t.nm=nm)/\e= .returned .nilIface/\BV bc bt bp bd bm (N+280) (TE L nm) w'/\Aa (fun b=>b=bp\/b=bm) w w'):=by
 obtain⟨N1,up,V,T,h1,h2,h3⟩:=h;have hall:=h3.all h2.sorted;have hpre:=h3.prefix h2.sorted nm
 by_cases hex:∃t∈L,t.nm=nm
 ·obtain⟨t,ht,hn⟩:=hex
  have hat:atN L nm=[t]:=by rw[<-hn];exact I4 h3.srt ht
  rw[hat,List.flatMap_singleton]at hpre;have htk:=h3.ok t ht;have hlen:=Co t;have hcs:=htk.cs;refine(KW (Z:=300 * L.length) h2 nm hnm hpre (fun x hx=>(h3.mem x).2 (List.mem_flatMap.2 ⟨t,ht,hx⟩)) (OU (FO htk)) (by omega) (by rw[hall];exact I0 L h3.ok) (by omega)).mono ?_;rintro e w' (⟨h0,_⟩|⟨_,he,⟨N2,up2,V2,T2,g1,g2,g3,g4⟩,ho⟩)
  ·rw[h0]at hlen;simp at hlen
  ·refine .inr ⟨⟨t,ht,hn⟩,he,⟨N2,up2,V2,T2,by omega,g2,?_⟩,ho⟩
   rw[<-hn];exact h3.drop ht g4
 ·have hno:∀t∈L,t.nm≠nm:=fun t ht e=>hex ⟨t,ht,e⟩
  rw[SD hno]at hpre;refine(KW (Z:=300 * L.length) h2 nm hnm (ps:=[]) hpre (fun x hx=>by cases hx) List.Pairwise.nil (by simp) (by rw[hall];exact I0 L h3.ok) (by omega)).mono ?_;rintro e w' (⟨_,he,hb⟩|⟨h0,_⟩)
  ·exact .inl ⟨hno,he,hb⟩
  ·exact absurd rfl h0
end
theorem AI.far {B b o:Nat} {v u:Value} {E:List Ent} {w:World} (h:AI B v E w) (hb:∀a k,(a=v\/a∈EQ E)->a.ownBlock=some k->k≠b):AI B v E (w.setCell ⟨b,o,none⟩ u):=by
 have hG:w.grownBy (w.setCell ⟨b,o,none⟩ u) (some b):=⟨rfl,rfl,rfl,by simp,fun k _ hk=>heap_setCell_other w ⟨b,o,none⟩ k u (fun e=>hk (by simp[e]))⟩
 have hk:∀a,(a=v\/a∈EQ E)->(a.ownBlock=none\/a.ownBlock≠some b):=fun a ha=>by
  cases e:a.ownBlock with
  |none=>exact .inl rfl
  |some k=>exact .inr (fun e2=>hb a k ha e (Option.some.inj e2))
 exact⟨World.ownsRow.kept h.row hG (hk v (.inl rfl)),fun x hx=>⟨World.ownsRow.kept (h.cs x hx).1 hG (hk _ (.inr (B6.2 ⟨x,hx,.inl rfl⟩))),World.ownsRow.kept (h.cs x hx).2 hG (hk _ (.inr (B6.2 ⟨x,hx,.inr rfl⟩)))⟩,h.ap⟩
theorem R5:∀(k:Nat) (l:List Nat),(∀j,1<=j->j<k+1->j∈l)->k<=l.length
 |0,_,_=>Nat.zero_le _
 |k+1,l,h=>by
  have hm:k+1∈l:=h (k+1) (by omega) (by omega);have h1:=R5 k (l.erase (k+1)) (fun j h1 h2=>(List.mem_erase_of_ne (by omega)).2 (h j h1 (by omega)));rw[List.length_erase_of_mem hm]at h1;have:0<l.length:=List.length_pos_of_mem hm;omega
def Pd (w:World) (b:Nat):Int:=match w.cell? ⟨b,0,none⟩with
 |some v=>intOf v
 |none=>0
set_option maxHeartbeats 1000000
theorem Se {B:Nat} {v:Value} {E:List Ent} (w:World) (h:AI B v E w) (hl:E.length<=100):
  Calls Tryz.prog 59 #[v] w fun e w'=>(∃n:Nat,e= .returned (.int .i64 (n:Nat))/\1<=n/\n<=E.length+1/\∀x∈E,x.t.id≠n)/\Below w.heap.size w w':=by
 obtain⟨W1,hW1⟩:∃W1,w.alloc (.cells #[.int .i64 1] 3)=W1:=⟨_,rfl⟩;have hb1:Below w.heap.size w W1:=by rw[<-hW1];exact(Below.refl _ w).alloc (Nat.le_refl _) _
 have HO1:Hid (Ai w.heap.size (.int .i64 1) W1):=by rw[<-hW1];exact Ai.new w _ 3
 have HE1:Hid (AI B v E W1):=h.below hb1;have HB1:Hid _:=hb1;have HELT:Hid (∀a k,(a=v\/a∈EQ E)->a.ownBlock=some k->k<w.heap.size):=fun a k ha hk=>(h.lt ha hk).2;have hmf:∀(fn:Fn) (first cap:Array Value) (w:World),(Instr.makeFunc fn first cap).run Tryz.prog w= .ok (.func fn first cap) w:=fun _ _ _ _=>rfl;clear h hb1;go_enter Tryz.func59,Tryz.ntmps59;go_wp2_with fail;go_loopw [] (fun wr=>∃k:Nat,1<=k/\k<=E.length+1/\Hid (Ai w.heap.size (.int .i64 (k:Nat)) wr)/\Hid (AI B v E wr)/\Hid (Below w.heap.size w wr)/\Hid (∀j,1<=j->j<k->∃x∈E,x.t.id=j)) (fun wr=>200-(Pd wr w.heap.size).toNat)
 case atStart=>exact⟨1,Nat.le_refl _,by omega,HO1,HE1,HB1,fun j h1 h2=>absurd h2 (by omega)⟩
 case round=>
  clear HO1 HE1 HB1;obtain⟨k,hk1,hk2,HO,HE,HB,HJ⟩:=hrel;have q0:=HO.out.cell
  have HH:Hid (Calls Tryz.prog 55 #[v,.func (.func 113) #[] #[.pointer (some ⟨w.heap.size,0,none⟩)]] wr fun e w'=>e= .returned (.bool (E.any (fun x=>(x.t.id:Int) == (k:Int))))/\Below wr.heap.size wr w'):=
   MV (p:=fun x=>(x.t.id:Int) == (k:Int)) wr HE.out q0 (enters_of Tryz.func113 (by kernel_rfl) rfl) (fun x _ a1 l1 c1 a2 l2 c2 wx hx=>T9 wx hx _ _ _ _ _ a1 a2 l1 c1 l2 c2 rfl rfl)
  go_wp2_with fail;refine(show Calls _ _ _ _ _ from HH.out).mono ?_;rintro _ w2 ⟨rfl,hb2⟩;have HO2:Hid (Ai w.heap.size (.int .i64 (k:Nat)) w2):=HO.out.below hb2;have HE2:Hid (AI B v E w2):=HE.out.below hb2;have HB2:Hid (Below w.heap.size w w2):=HB.out.trans (hb2.mono HB.out.size);have c0:=HO2.out.cell;have f0:=HO2.out.free;clear hb2 q0 HH
  cases hany:E.any (fun x=>(x.t.id:Int) == (k:Int))
  ·have HNO:Hid (∀x∈E,x.t.id≠k):=fun x hx e=>by
    have:=List.any_eq_false.1 hany x hx;exact this (by simp[e])
   clear hany;go_wp2;go_ret;exact⟨⟨k,rfl,hk1,hk2,HNO.out⟩,HB2.out⟩
  ·have HYES:Hid (∃x∈E,x.t.id=k):=by
    obtain⟨x,hx,e⟩:=List.any_eq_true.1 hany;exact⟨x,hx,by have:=eq_of_beq e;omega⟩
   have hkk:k<=E.length:=by
    have:=R5 k (E.map (·.t.id)) (fun j h1 h2=>by
     rcases Nat.lt_or_ge j k with hj|hj
     ·obtain⟨x,hx,e⟩:=HJ.out j h1 hj
      exact List.mem_map.2 ⟨x,hx,e⟩
     ·obtain rfl:j=k:=by omega
      obtain⟨x,hx,e⟩:=HYES.out;exact List.mem_map.2 ⟨x,hx,e⟩)
    simpa using this
   clear hany;have hkw:IntKind.i64.wrap ((k:Int)+1)=((k+1:Nat):Int):=by rw[Br _ (by omega) (by omega)];simp
   go_wp2_with fail;go_roundw
   case rel=>
    refine⟨k+1,by omega,by omega,HO2.out.set _,HE2.out.far (fun a b ha hb=>by have:=HELT.out a b ha hb;omega),HB2.out.setCell (Nat.le_refl _) _,fun j h1 h2=> ?_⟩;rcases Nat.lt_or_ge j k with hj|hj
    ·exact HJ.out j h1 hj
    ·obtain rfl:j=k:=by omega
     exact HYES.out
   case measure=>
    simp only[Pd];rw[(HO2.out.set _).cell,HO.out.cell];simp[intOf];omega
theorem Mu {B b:Nat} {e:TypeId} {size n:Nat} {v u0 u1 u2 u3 u4:Value} {xs:List Value} {w:World} (h:w.ownsRow B e size v n xs) (hb:∀k,v.ownBlock=some k->k≠b):(((((w.setCell ⟨b,0,none⟩ u0).setCell ⟨b,1,none⟩ u1).setCell ⟨b,2,none⟩ u2).setCell ⟨b,3,none⟩ u3).setCell ⟨b,4,none⟩ u4).ownsRow B e size v n xs:=
 DE (DE (DE (DE (DE h hb) hb) hb) hb) hb
section
variable {bc bt bp:Nat} {bd:Sts} {bm N Z:Nat} {L:List Tb} {w:World}
theorem NV (h:BV bc bt bp bd bm N L w) {m:Int} (hm:w.cell? ⟨1,0,none⟩=some (.int .i64 m)) (nm:ByteArray) (hLl:L.length<=100):
  Calls Tryz.prog 54 #[.pointer (some ⟨bc,0,none⟩),.string (Ap nm)] w fun e w'=>∃v E,e= .returned (.tuple #[v,.nilIface])/\AI w.heap.size v E w'/\E.map (·.t)=atN L nm/\(∀x∈E,x.is_=ixs x.t.cs)/\Below w.heap.size w w':=by
 obtain⟨N1,up,V,T,h1,h2,h3⟩:=h;exact KR h2 hm (Ap nm) (fun t ht=>h3.ok t (List.mem_filter.1 ht).1) (h3.prefix h2.sorted nm) (Nat.le_trans (List.length_filter_le _ _) hLl)
theorem MN (h:BV bc bt bp bd bm N L w) {m:Int} (hm:w.cell? ⟨1,0,none⟩=some (.int .i64 m)) (hLl:L.length<=100):
  Calls Tryz.prog 54 #[.pointer (some ⟨bc,0,none⟩),.string ⟨#[]⟩] w fun e w'=>∃v E,e= .returned (.tuple #[v,.nilIface])/\AI w.heap.size v E w'/\E.map (·.t)=L/\(∀x∈E,x.is_=ixs x.t.cs)/\Below w.heap.size w w':=by
 obtain⟨N1,up,V,T,h1,h2,h3⟩:=h;exact KR h2 hm ⟨#[]⟩ h3.ok (h3.every h2.sorted) hLl
theorem GB (h:BV bc bt bp bd bm N L w) {m:Int} (hm:w.cell? ⟨1,0,none⟩=some (.int .i64 m)) (hLl:L.length<=100) {t:Tb} (ht:t∈L):
  Calls Tryz.prog 24 #[.pointer (some ⟨bc,0,none⟩),.string t.nm] w fun e w'=>∃vc vi,e= .returned (.tuple #[.agg #[.int .i64 (t.id:Nat),.int .i64 (t.nx:Nat),.string t.nm,vc,vi],.nilIface])/\A8 w.heap.size vc t.cs w'/\Cp w.heap.size vi (ixs t.cs) w'/\Apt vc vi/\Below w.heap.size w w':=by
 have htk:=h.ok t ht;have hns:=Bg htk.nm;have hat:=I4 h.srt ht;obtain⟨W1,hW1⟩:∃W1,w.alloc (.cells #[.int .i64 0,.int .i64 0,.string ⟨#[]⟩,.slice none 0 0,.slice none 0 0] 92)=W1:=⟨_,rfl⟩;have hb1:Below w.heap.size w W1:=by rw[<-hW1];exact(Below.refl _ w).alloc (Nat.le_refl _) _
 have HV1:Hid (Ac w.heap.size [.int .i64 0,.int .i64 0,.string ⟨#[]⟩,.slice none 0 0,.slice none 0 0] W1):=by rw[<-hW1];exact Ac.new w #[.int .i64 0,.int .i64 0,.string ⟨#[]⟩,.slice none 0 0,.slice none 0 0] 92 (by simp)
 have HS1:Hid (w.heap.size<W1.heap.size):=HV1.out.lt
 have HLK:Hid (Calls Tryz.prog 54 #[.pointer (some ⟨bc,0,none⟩),.string (Ap t.nm)] W1 fun e w'=>∃v E,e= .returned (.tuple #[v,.nilIface])/\AI W1.heap.size v E w'/\E.map (·.t)=[t]/\(∀x∈E,x.is_=ixs x.t.cs)/\Below W1.heap.size W1 w'):=by
  have:=NV (h.below hb1) (Ae hb1 hm) t.nm hLl;rw[hat]at this;exact this
 have HB1:Hid _:=hb1;clear h hm hat htk hb1;go_enter Tryz.func24,Tryz.ntmps24;go_wp2_with fail;refine(Et t.nm (by omega) _).mono ?_;rintro _ w9 ⟨rfl,h9⟩;obtain rfl:=h9.symm;clear h9;go_wp2_with fail;refine(show Calls _ _ _ _ _ from HLK.out).mono ?_;rintro _ w2 ⟨v,E,rfl,hE,hM,hI,hb2⟩
 obtain⟨x,rfl,hx⟩:∃x,E=[x]/\x.t=t:=by
  cases E with
  |nil=>simp at hM
  |cons x r=>
   simp at hM;obtain⟨h1,h2⟩:=hM;subst h2;exact⟨x,rfl,h1⟩
 obtain⟨g,cap,a1,l1,c1,a2,l2,c2,ev,hg1,hg2,e1,e2,k0,k1,k2,k3,k4,hix⟩:=hE.at (i:=0) (by simp);simp only[List.length_singleton]at ev hix;subst ev;simp only[List.getElem_cons_zero,Nat.mul_zero,Nat.zero_add]at e1 e2 k0 k1 k2 k3 k4 hix;rw[hx]at k0 k1 k2
 have HC2:Hid (A8 w.heap.size (.slice a1 l1 c1) t.cs w2):=by
  have:=(hE.cs x (by simp)).1;rw[e1,hx]at this;exact AE this (Nat.le_of_lt HS1.out)
 have HN2:Hid (Cp w.heap.size (.slice a2 l2 c2) (ixs t.cs) w2):=by
  have:=(hE.cs x (by simp)).2;rw[e2,hI x (by simp),hx]at this;exact AE this (Nat.le_of_lt HS1.out)
 have HV2:Hid (Ac w.heap.size [.int .i64 0,.int .i64 0,.string ⟨#[]⟩,.slice none 0 0,.slice none 0 0] w2):=HV1.out.below hb2;have HB2:Hid (Below w.heap.size w w2):=HB1.out.trans (hb2.mono HB1.out.size)
 have HCL:Hid (∀k,(Value.slice a1 l1 c1).ownBlock=some k->k≠w.heap.size):=fun k hk=>by
  have:=(World.ownsRow.lt (hE.cs x (by simp)).1 k (by rw[e1];exact hk)).1;have:=HS1.out;omega
 have HNL:Hid (∀k,(Value.slice a2 l2 c2).ownBlock=some k->k≠w.heap.size):=fun k hk=>by
  have:=(World.ownsRow.lt (hE.cs x (by simp)).2 k (by rw[e2];exact hk)).1;have:=HS1.out;omega
 have HAP:Hid (Apt (.slice a1 l1 c1) (.slice a2 l2 c2)):=by
  have:=hE.ap;simp only[List.flatMap_singleton,List.pairwise_cons]at this;rw[<-e1,<-e2];exact this.2.1 _ (by simp)
 have f0:=HV2.out.free 0;have f1:=HV2.out.free 1;have f2:=HV2.out.free 2;have f3:=HV2.out.free 3;have f4:=HV2.out.free 4;obtain⟨d0,d1,d2,d3,d4⟩:=HV2.out.c5;clear hE hM hI hb2 e1 e2 hx HV1 HB1 HLK;go_wp2;refine bodyPost_ret (v:= .tuple #[.agg #[.int .i64 (t.id:Nat),.int .i64 (t.nx:Nat),.string t.nm,.slice a1 l1 c1,.slice a2 l2 c2],.nilIface]) (Cn Tryz.results24 _ _ _ rfl rfl (G6 (((((HV2.out.set 0 _).set 1 _).set 2 _).set 3 _).set 4 _))) rfl ⟨_,_,rfl,?_,?_,HAP.out,((((HB2.out.setCell (Nat.le_refl _) _).setCell (Nat.le_refl _) _).setCell (Nat.le_refl _) _).setCell (Nat.le_refl _) _).setCell (Nat.le_refl _) _⟩
 ·exact Mu HC2.out HCL.out
 ·exact Mu HN2.out HNL.out
end
theorem Of {B fw Bc:Nat} {u v:Value} {E:List Col} {p:Col->Bool} (w:World) (h:A8 B v E w) (hu:w.cell? ⟨Bc,0,none⟩=some u) (eg:∀args w,(callFunc fw args).run Tryz.prog w= .ok (.enter fw args) w)
  (hc:∀x∈E,∀wx,wx.cell? ⟨Bc,0,none⟩=some u->Calls Tryz.prog fw #[.agg #[.string x.nm,.int .i64 (x.kd:Nat),.bool x.mu,.bool x.wo],.pointer (some ⟨Bc,0,none⟩)] wx fun e w'=>e= .returned (.bool (p x))/\Below wx.heap.size wx w'):
  Calls Tryz.prog 133 #[v,.func (.func fw) #[] #[.pointer (some ⟨Bc,0,none⟩)]] w fun e w'=>Ns p E e/\Below w.heap.size w w':=by
 obtain⟨a9,c9,hv9⟩:=Aj h;have hmx:=Lt h;obtain⟨n,hn⟩:∃n,E.length=n:=⟨_,rfl⟩;rw[hn]at hv9 hmx;subst hv9;have HN:Hid (E.length=n):=hn;have HE:Hid _:=h;have HU:Hid _:=hu;have HC:Hid _:=hc;have hult:=World.block_lt_of_cell? _ _ hu;clear h hu hc hn;go_enter Tryz.func133,Tryz.ntmps133;go_wp2_with fail;go_loopw [8] (fun i wr=>∃k:Nat,k<=n/\i= .int .i64 (k:Nat)/\Hid (A8 B (.slice a9 n c9) E wr)/\Hid (wr.cell? ⟨Bc,0,none⟩=some u)/\Hid (Below w.heap.size w wr)/\Hid (∀j (hj:j<k) (hl:j<E.length),p E[j]=false)) (fun i _=>n+1-(intOf i).toNat)
 case atStart=>exact⟨0,Nat.zero_le _,rfl,HE,HU,Below.refl _ _,fun j hj=>absurd hj (by omega)⟩
 case round=>
  clear HE HU;obtain⟨k,hk,rfl,HE,HU,HB,HP⟩:=hrel
  by_cases hlt:k<n
  ·have h1:(k:Int)<(n:Int):=by omega
   have hkl:k<E.length:=by rw[HN.out];exact hlt
   obtain⟨g,cap,ev,hg1,hg2,k0,k1,k2,k3,hix0⟩:=HE.out.at hkl;rw[HN.out]at ev
   cases ev
   have hix:=hix0 n hlt;clear hix0;have HCC:Hid _:=HC.out E[k] (List.getElem_mem hkl) wr HU.out;obtain⟨x,hx⟩:∃x,E[k]=x:=⟨_,rfl⟩;rw[hx]at k0 k1 k2 k3 HCC;go_wp2_with fail;refine(show Calls _ _ _ _ _ from HCC.out).mono ?_;rintro _ w2 ⟨rfl,hb2⟩;have HE2:Hid (A8 B (.slice (some ⟨g,0,none⟩) n c9) E w2):=HE.out.below hb2;have HU2:Hid (w2.cell? ⟨Bc,0,none⟩=some u):=(hb2.cell (World.block_lt_of_cell? _ _ HU.out)).trans HU.out;have HB2:Hid (Below w.heap.size w w2):=HB.out.trans (hb2.mono HB.out.size);clear hb2 k0 k1 k2 k3 HCC
   cases hp:p x
   ·go_wp2_with fail
    go_roundw
    case rel=>exact⟨k+1,by omega,by go_num,HE2,HU2,HB2,fun j hj hl=>by
      by_cases e:j=k
      ·subst e;rw[hx];exact hp
      ·exact HP.out j (by omega) hl⟩
    case measure=>simp[intOf];omega
   ·go_wp2
    go_ret;exact⟨.inl ⟨k,hkl,by rw[hx];exact hp,fun j hj=>HP.out j hj _,rfl⟩,HB2.out⟩
  ·have h1:¬(k:Int)<(n:Int):=by omega
   obtain rfl:n=k:=by omega
   go_wp2;go_ret
   exact⟨.inr ⟨fun x hx=>by
    obtain⟨j,hj,rfl⟩:=List.getElem_of_mem hx;exact HP.out j (by have:=HN.out;omega) hj,rfl⟩,HB.out⟩
theorem R4 {B:Nat} {nm:ByteArray} (w:World) (h:w.cell? ⟨B,0,none⟩=some (.string nm)) (name:ByteArray) (kd:Int) (mu wo:Bool):
  Calls Tryz.prog 134 #[.agg #[.string name,.int .i64 kd,.bool mu,.bool wo],.pointer (some ⟨B,0,none⟩)] w fun e w'=>e= .returned (.bool (name.toList == nm.toList))/\Below w.heap.size w w':=by
 have hlt:=World.block_lt_of_cell? w _ h;have hb:Below w.heap.size w (w.alloc (.cells #[.string name,.int .i64 kd,.bool mu,.bool wo] 83)):=(Below.refl _ w).alloc (Nat.le_refl _) _;have q0:=(hb.cell (p:=⟨B,0,none⟩) hlt).trans h;have HB:Hid _:=hb;clear hb h;go_enter Tryz.func134,Tryz.ntmps134;go_wp2;go_ret;exact⟨rfl,HB.out⟩
def Oa (nm:ByteArray) (c:Col):Bool:=c.nm.toList == nm.toList
theorem Cu {nm:ByteArray} {c:Col}:Oa nm c=true↔c.nm=nm:=⟨fun h=>BM h,fun h=>by unfold Oa;rw[h];simp⟩
theorem EF {B:Nat} {v:Value} {cs:List Col} (nm:ByteArray) (w:World) (h:A8 B v cs w):
  Calls Tryz.prog 86 #[v,.string nm] w fun e w'=>Ns (Oa nm) cs e/\Below w.heap.size w w':=by
 have hb:Below w.heap.size w (w.alloc (.cells #[.string nm] 9)):=(Below.refl _ w).alloc (Nat.le_refl _) _;have q0:=(Ai.new w (.string nm) 9).cell
 have HI:Hid (Calls Tryz.prog 133 #[v,.func (.func 134) #[] #[.pointer (some ⟨w.heap.size,0,none⟩)]] (w.alloc (.cells #[.string nm] 9)) fun e w'=>Ns (Oa nm) cs e/\Below (w.alloc (.cells #[.string nm] 9)).heap.size (w.alloc (.cells #[.string nm] 9)) w'):=
  Of _ (h.below hb) q0 (enters_of Tryz.func134 (by kernel_rfl) rfl) (fun x _ wx hx=>R4 wx hx x.nm _ _ _)
 have HB:Hid _:=hb;have hmf:∀(fn:Fn) (first cap:Array Value) (w:World),(Instr.makeFunc fn first cap).run Tryz.prog w= .ok (.func fn first cap) w:=fun _ _ _ _=>rfl;clear hb h q0;go_enter Tryz.func86,Tryz.ntmps86;go_wp2_with fail;refine(show Calls _ _ _ _ _ from HI.out).mono ?_;rintro _ w2 ⟨hI,hb2⟩;have HB2:Hid (Below w.heap.size w w2):=HB.out.trans (hb2.mono HB.out.size);have HR:Hid (Ns (Oa nm) cs _):=hI
 obtain⟨u,hu⟩:∃u,_=Ending.returned u:=by
  rcases hI with⟨i,_,_,_,e⟩|⟨_,e⟩
  ·exact⟨_,e⟩
  ·exact⟨_,e⟩
 subst hu;clear hb2 hI HI;go_wp2;go_ret;exact⟨HR.out,HB2.out⟩
structure Ua (c:Col) (ah:List Col):Prop where
 nm:BW c.nm=true
 kd:c.kd=1\/c.kd=2
 wo:c.wo=true->c.kd=2
 new:∀x∈ah,x.nm≠c.nm
theorem QO {B:Nat} {v:Value} {ah:List Col} {c:Col} (w:World) (h:A8 B v ah w) (hc:Ua c ah):
  Calls Tryz.prog 109 #[.agg #[.string c.nm,.int .i64 (c.kd:Nat),.bool c.mu,.bool c.wo],v] w fun e w'=>e= .returned (.int .i64 0)/\Below w.heap.size w w':=by
 obtain⟨nm,kd,mu,wo,ix⟩:=c;obtain⟨h1,h2,h3,h4⟩:=hc;simp only at h1 h2 h3 h4 ⊢;have hb:Below w.heap.size w (w.alloc (.cells #[.string nm,.int .i64 (kd:Nat),.bool mu,.bool wo] 83)):=(Below.refl _ w).alloc (Nat.le_refl _) _;have HR:Hid (A8 B v ah (w.alloc (.cells #[.string nm,.int .i64 (kd:Nat),.bool mu,.bool wo] 83))):=h.below hb;have HB:Hid _:=hb;have H1:Hid _:=h1;have H4:Hid _:=h4;clear hb h h1 h4;rcases h2 with rfl|rfl
 ·obtain rfl:wo=false:=by
   cases wo
   ·rfl
   ·exact absurd (h3 rfl) (by decide)
  clear h3;go_enter Tryz.func109,Tryz.ntmps109;go_wp2_with fail;refine(EI nm _).mono ?_;rintro _ w2 ⟨rfl,h2⟩;obtain rfl:=h2.symm;rw[H1.out];clear h2;go_wp2_with fail;refine(EF nm _ HR.out).mono ?_;rintro _ w3 ⟨hI,hb3⟩;have HB3:Hid (Below w.heap.size w w3):=HB.out.trans (hb3.mono HB.out.size);rcases hI with⟨i,hi,hp,_,_⟩|⟨_,rfl⟩
  ·exact absurd (Cu.1 hp) (H4.out _ (List.getElem_mem hi))
  clear hb3;go_wp2;go_ret;exact⟨rfl,HB3.out⟩
 ·clear h3
  cases wo
  ·go_enter Tryz.func109,Tryz.ntmps109
   go_wp2_with fail;refine(EI nm _).mono ?_;rintro _ w2 ⟨rfl,h2⟩;obtain rfl:=h2.symm;rw[H1.out];clear h2;go_wp2_with fail;refine(EF nm _ HR.out).mono ?_;rintro _ w3 ⟨hI,hb3⟩;have HB3:Hid (Below w.heap.size w w3):=HB.out.trans (hb3.mono HB.out.size);rcases hI with⟨i,hi,hp,_,_⟩|⟨_,rfl⟩
   ·exact absurd (Cu.1 hp) (H4.out _ (List.getElem_mem hi))
   clear hb3;go_wp2;go_ret;exact⟨rfl,HB3.out⟩
  ·go_enter Tryz.func109,Tryz.ntmps109
   go_wp2_with fail;refine(EI nm _).mono ?_;rintro _ w2 ⟨rfl,h2⟩;obtain rfl:=h2.symm;rw[H1.out];clear h2;go_wp2_with fail;refine(EF nm _ HR.out).mono ?_;rintro _ w3 ⟨hI,hb3⟩;have HB3:Hid (Below w.heap.size w w3):=HB.out.trans (hb3.mono HB.out.size);rcases hI with⟨i,hi,hp,_,_⟩|⟨_,rfl⟩
   ·exact absurd (Cu.1 hp) (H4.out _ (List.getElem_mem hi))
   clear hb3;go_wp2;go_ret;exact⟨rfl,HB3.out⟩
theorem ND (g n cap i:Nat) (hi:i<n) (hn:n<=cap) (wx:World):(Instr.slice 84 (.slice (some ⟨g,0,none⟩) n cap) none (some (.int .i64 (i:Nat))) none).run Tryz.prog wx= .ok (.slice (some ⟨g,0,none⟩) i cap) wx:=by
 simp[Instr.slice,Instr.sliceBounds,Instr.sliceBound,asIntOf,run_underlying Tryz.underlying84,go_sem,Tryz.sizeOf83];intro h;omega
theorem QF {B:Nat} {v:Value} {cs:List Col} {nm:ByteArray} {ai:Option Addr} {li ci:Nat} (w:World) (h:A8 B v cs w) (hl:1<=cs.length) (h6:cs.length<=6) (hc:∀i (hi:i<cs.length),Ua cs[i] (cs.take i)):
  Calls Tryz.prog 53 #[.agg #[.string nm,v,.slice ai li ci]] w fun e w'=>e= .returned (if BW nm=true then .nilIface else .iface 101 (.int .i64 4))/\Below w.heap.size w w':=by
 obtain⟨g,cap,hv,hg1,hg2⟩:=World.ownsRow.form h (by omega);subst hv;obtain⟨n,hn⟩:∃n,cs.length=n:=⟨_,rfl⟩
 have hcap:cs.length<=cap/\cap<=maxLen:=by
  rcases h.2 with⟨e,_⟩|⟨g',cap',cur,e,_,_,h4,h5,_⟩
  ·cases e
  ·cases e;exact⟨h4,h5⟩
 obtain⟨W0,hW0⟩:∃W0,w.alloc (.cells #[.string nm,.slice (some ⟨g,0,none⟩) cs.length cap,.slice ai li ci] 87)=W0:=⟨_,rfl⟩;have hbW:Below w.heap.size w W0:=by rw[<-hW0];exact(Below.refl _ w).alloc (Nat.le_refl _) _
 have HWS:Hid (W0.heap.size=w.heap.size+1):=by rw[<-hW0];exact World.size_alloc _ _
 have HV:Hid (Ac w.heap.size [.string nm,.slice (some ⟨g,0,none⟩) cs.length cap,.slice ai li ci] W0):=by rw[<-hW0];exact Ac.new w #[.string nm,.slice (some ⟨g,0,none⟩) cs.length cap,.slice ai li ci] 87 (by simp)
 have HR:Hid (A8 B (.slice (some ⟨g,0,none⟩) cs.length cap) cs W0):=h.below hbW;have HB:Hid _:=hbW;have HC:Hid _:=hc;have HN:Hid _:=hn;have HCAP:Hid _:=hcap;clear h hc hbW hcap;rw[hn]at HV HR hW0;rw[hn]at hl h6;rw[hn];obtain⟨q0,q1,q2⟩:=HV.out.c3;go_enter Tryz.func53,Tryz.ntmps53;go_wp2_with fail;refine(EI nm _).mono ?_;rintro _ w1 ⟨rfl,h1⟩;obtain rfl:=h1.symm;clear h1 hn
 cases hnm:BW nm
 ·go_wp2<;>(go_ret;exact⟨rfl,HB.out⟩)
 ·have i1:¬(n:Int)<1:=by omega
  have i2:¬(6:Int)<(n:Int):=by omega
  go_wp2_with fail;go_loopw [26] (fun i wr=>∃k:Nat,k<=n/\i= .int .i64 (k:Nat)/\Hid (Ac w.heap.size [.string nm,.slice (some ⟨g,0,none⟩) n cap,.slice ai li ci] wr)/\Hid (A8 B (.slice (some ⟨g,0,none⟩) n cap) cs wr)/\Hid (Below w.heap.size w wr)) (fun i _=>n+1-(intOf i).toNat)
  case atStart=>exact⟨0,Nat.zero_le _,rfl,HV,HR,HB⟩
  case round=>
   clear HV HR HB q0 q1 q2;obtain⟨k,hk,rfl,HV,HR,HB⟩:=hrel
   by_cases hlt:k<n
   ·have h1:(k:Int)<(n:Int):=by omega
    have hkl:k<cs.length:=by rw[HN.out];exact hlt
    obtain⟨g',cap',ev,_,_,k0,k1,k2,k3,hix0⟩:=HR.out.at hkl;rw[HN.out]at ev
    cases ev
    have hix:=hix0 n hlt;have hsl:=ND g n cap k hlt (by have:=HCAP.out.1;have:=HN.out;omega);obtain⟨g2,cap2,ev2,hct⟩:=HR.out.take hkl;rw[HN.out]at ev2
    cases ev2
    have HCT:Hid (A8 B (.slice (some ⟨g,0,none⟩) k cap) (cs.take k) wr):=hct;have HCC:Hid (Ua cs[k] (cs.take k)):=HC.out k hkl;obtain⟨c,hcx⟩:∃c,cs[k]=c:=⟨_,rfl⟩;rw[hcx]at k0 k1 k2 k3 HCC;obtain⟨q0,q1,q2⟩:=HV.out.c3
    have C0:Hid ((wr.alloc (.cells #[.string c.nm,.int .i64 (c.kd:Nat),.bool c.mu,.bool c.wo] 83)).drew.cell? ⟨wr.heap.size,0,none⟩=some (.string c.nm)/\(wr.alloc (.cells #[.string c.nm,.int .i64 (c.kd:Nat),.bool c.mu,.bool c.wo] 83)).drew.cell? ⟨wr.heap.size,1,none⟩=some (.int .i64 (c.kd:Nat))/\(wr.alloc (.cells #[.string c.nm,.int .i64 (c.kd:Nat),.bool c.mu,.bool c.wo] 83)).drew.cell? ⟨wr.heap.size,2,none⟩=some (.bool c.mu)/\(wr.alloc (.cells #[.string c.nm,.int .i64 (c.kd:Nat),.bool c.mu,.bool c.wo] 83)).drew.cell? ⟨wr.heap.size,3,none⟩=some (.bool c.wo)/\(wr.alloc (.cells #[.string c.nm,.int .i64 (c.kd:Nat),.bool c.mu,.bool c.wo] 83)).drew.cell? ⟨w.heap.size,1,none⟩=some (.slice (some ⟨g,0,none⟩) n cap)):=by
     have v4:=(Ac.new wr #[.string c.nm,.int .i64 (c.kd:Nat),.bool c.mu,.bool c.wo] 83 (by simp)).drew.c4;exact⟨v4.1,v4.2.1,v4.2.2.1,v4.2.2.2,(HV.out.below ((Below.refl _ wr).alloc (Nat.le_refl _) (.cells #[.string c.nm,.int .i64 (c.kd:Nat),.bool c.mu,.bool c.wo] 83))).drew.c3.2.1⟩
    have HBA:Hid (Below wr.heap.size wr (wr.alloc (.cells #[.string c.nm,.int .i64 (c.kd:Nat),.bool c.mu,.bool c.wo] 83)).drew):=((Below.refl _ wr).alloc (Nat.le_refl _) _).drew;clear hix0 hct hcx;go_wp2_with fail
    go_region_held3 (fun wx=>wx.cell? ⟨wr.heap.size,0,none⟩=some (.string c.nm)/\wx.cell? ⟨wr.heap.size,1,none⟩=some (.int .i64 (c.kd:Nat))/\wx.cell? ⟨wr.heap.size,2,none⟩=some (.bool c.mu)/\wx.cell? ⟨wr.heap.size,3,none⟩=some (.bool c.wo)/\wx.cell? ⟨w.heap.size,1,none⟩=some (.slice (some ⟨g,0,none⟩) n cap)) (first|exact C0.out|exact C1.out) (first|(go_at_call 109;refine(QO _ (HCT.out.below HBA.out) HCC.out).mono ?_;rintro _ w2 ⟨rfl,hb2⟩;have HB2:Hid (Below wr.heap.size wr w2):=HBA.out.trans (hb2.mono HBA.out.size);have C1:Hid (w2.cell? ⟨wr.heap.size,0,none⟩=some (.string c.nm)/\w2.cell? ⟨wr.heap.size,1,none⟩=some (.int .i64 (c.kd:Nat))/\w2.cell? ⟨wr.heap.size,2,none⟩=some (.bool c.mu)/\w2.cell? ⟨wr.heap.size,3,none⟩=some (.bool c.wo)/\w2.cell? ⟨w.heap.size,1,none⟩=some (.slice (some ⟨g,0,none⟩) n cap)):=⟨Ae hb2 C0.out.1,Ae hb2 C0.out.2.1,Ae hb2 C0.out.2.2.1,Ae hb2 C0.out.2.2.2.1,Ae hb2 C0.out.2.2.2.2⟩;clear hb2))
    go_wp2_with fail;go_roundw
    case rel=>exact⟨k+1,by omega,by go_num,HV.out.below HB2.out,HR.out.below HB2.out,HB.out.trans (HB2.out.mono HB.out.size)⟩
    case measure=>simp[intOf];omega
   ·have h1:¬(k:Int)<(n:Int):=by omega
    obtain rfl:n=k:=by omega
    go_wp2;go_ret;exact⟨rfl,HB.out⟩
structure Nt (cs:List Col):Prop where
 one:1<=cs.length
 six:cs.length<=6
 col:∀i (hi:i<cs.length),Ua cs[i] (cs.take i)
 ix:∀c∈cs,c.ix=false
theorem Nt.ok {cs:List Col} (h:Nt cs):∀c∈cs,c.Ok:=fun c hc=>by
 obtain⟨i,hi,rfl⟩:=List.getElem_of_mem hc;exact⟨(h.col i hi).nm,(h.col i hi).kd⟩
def May (L:List Tb) (nm:ByteArray):Prop:=BW nm=true/\(∀t∈L,t.nm≠nm)/\L.length<20
def VR (bc bt bp:Nat) (bd:Sts) (bm N:Nat) (L:List Tb) (nm:ByteArray) (cs:List Col) (w:World) (e:Ending) (w':World):Prop:=
 (May L nm/\e= .returned .nilIface/\∃id,1<=id/\id<=20/\(∀t∈L,t.id≠id)/\id<=L.length+1/\BV bc bt bp bd bm (N+280) (JX ⟨id,nm,cs,1⟩ L) w'/\Aa (fun b=>b=bp\/b=bm) w w')\/
 (¬May L nm/\∃ty x,e= .returned (.iface ty x)/\Below w.heap.size w w')
section
variable {bc bt bp:Nat} {bd:Sts} {bm N Z:Nat} {L:List Tb} {w:World}
theorem VK {L:List Tb} (h:∀t∈L,t.Ok) (hs:L.Pairwise (fun a b=>bl a.nm b.nm=true)):Cat L (L.flatMap Tb.prs):=⟨h,hs,fun _=>Iff.rfl⟩
theorem PrS.cat (hok:∀t∈L,t.Ok) (hs:L.Pairwise (fun a b=>bl a.nm b.nm=true)) {t:Tb} (ht:t.Ok) (hn:∀s∈L,s.nm≠t.nm) (h:PrS bc bt bp bd bm N Z (Gx (·∈L.flatMap Tb.prs) t.prs) w):BV bc bt bp bd bm N (JX t L) w:=by
 obtain⟨N1,up,V,T,h1,h2,h3,h4⟩:=h;exact⟨N1,up,V,T,h1,h2,(VK hok hs).put ht hn h4⟩
theorem Nc (h:BV bc bt bp bd bm N L w) {m:Int} (hm:w.cell? ⟨1,0,none⟩=some (.int .i64 m)) (hLl:L.length<=20) (nm:ByteArray) {B:Nat} {vc:Value} {cs:List Col} (hc:A8 B vc cs w) (hcr:Nt cs) (hN:N+5000<1000000):
  Calls Tryz.prog 22 #[.pointer (some ⟨bc,0,none⟩),.agg #[.string nm,vc,.slice none 0 0]] w fun e w'=>VR bc bt bp bd bm N L nm cs w e w':=by
 obtain⟨ac,cc,hvc⟩:=Aj hc;subst hvc;obtain⟨nc,hnc⟩:∃nc,cs.length=nc:=⟨_,rfl⟩;rw[hnc]at hc;rw[hnc];obtain⟨W1,hW1⟩:∃W1,w.alloc (.cells #[.string nm,.slice ac nc cc,.slice none 0 0] 87)=W1:=⟨_,rfl⟩;have hb1:Below w.heap.size w W1:=by rw[<-hW1];exact(Below.refl _ w).alloc (Nat.le_refl _) _
 have HV1:Hid (Ac w.heap.size [.string nm,.slice ac nc cc,.slice none 0 0] W1):=by rw[<-hW1];exact Ac.new w #[.string nm,.slice ac nc cc,.slice none 0 0] 87 (by simp)
 have HC1:Hid (BV bc bt bp bd bm N L W1):=h.below hb1;have HR1:Hid (A8 B (.slice ac nc cc) cs W1):=A8.below hc hb1;have HM1:Hid (W1.cell? ⟨1,0,none⟩=some (.int .i64 m)):=Ae hb1 hm;have HB1:Hid (Below w.heap.size w W1):=hb1;have HCR:Hid (Nt cs):=hcr;have hltw:=h.lt;have hmf:∀(fn:Fn) (first cap:Array Value) (w:World),(Instr.makeFunc fn first cap).run Tryz.prog w= .ok (.func fn first cap) w:=fun _ _ _ _=>rfl;obtain⟨q0,q1,q2⟩:=HV1.out.c3;have HCK:Hid (Calls Tryz.prog 53 #[.agg #[.string nm,.slice ac nc cc,.slice none 0 0]] W1 fun e w'=>e= .returned (if BW nm=true then .nilIface else .iface 101 (.int .i64 4))/\Below W1.heap.size W1 w'):=QF W1 HR1.out hcr.one hcr.six hcr.col;clear h hc hm hb1 hcr hnc;go_enter Tryz.func22,Tryz.ntmps22;go_wp2_with fail;refine(show Calls _ _ _ _ _ from HCK.out).mono ?_;rintro _ w2 ⟨rfl,hb2⟩;have HV2:Hid (Ac w.heap.size [.string nm,.slice ac nc cc,.slice none 0 0] w2):=HV1.out.below hb2;have HC2:Hid (BV bc bt bp bd bm N L w2):=HC1.out.below hb2;have HR2:Hid (A8 B (.slice ac nc cc) cs w2):=A8.below HR1.out hb2;have HM2:Hid (w2.cell? ⟨1,0,none⟩=some (.int .i64 m)):=Ae hb2 HM1.out;have HB2:Hid (Below w.heap.size w w2):=HB1.out.trans (hb2.mono HB1.out.size);clear hb2 HV1 HC1 HR1 HM1 HB1 q0 q1 q2 HCK
 cases hnm:BW nm
 ·have HNM:Hid _:=hnm
  rw[if_neg (by decide)];clear hnm;go_wp2;go_ret;exact .inr ⟨fun e=>(by have:=e.1;rw[HNM.out]at this;cases this),_,_,rfl,HB2.out⟩
 ·have HNM:Hid _:=hnm
  rw[if_pos rfl];clear hnm;have HLK:Hid _:=MN HC2.out HM2.out (by omega);go_wp2_with fail;refine(show Calls _ _ _ _ _ from HLK.out).mono ?_;rintro _ w3 ⟨v,E,rfl,hE,hMap,_,hb3⟩;have HV3:Hid (Ac w.heap.size [.string nm,.slice ac nc cc,.slice none 0 0] w3):=HV2.out.below hb3;have HC3:Hid (BV bc bt bp bd bm N L w3):=HC2.out.below hb3;have HR3:Hid (A8 B (.slice ac nc cc) cs w3):=A8.below HR2.out hb3;have HB3:Hid (Below w.heap.size w w3):=HB2.out.trans (hb3.mono HB2.out.size);have HE3:Hid (AI w2.heap.size v E w3):=hE;have HMP:Hid (E.map (·.t)=L):=hMap;have HEL:Hid (E.length=L.length):=by show _=_;rw[<-hMap,List.length_map]
  clear hE hMap hb3 HV2 HC2 HR2 HB2 HM2 HLK;obtain⟨av,cv,hv⟩:=Aj HE3.out.row;rw[HEL.out]at hv;obtain⟨n,hn⟩:∃n,L.length=n:=⟨_,rfl⟩;rw[hn]at hv hLl;subst hv;have HN:Hid _:=hn;have q0:=HV3.out.c3.1
  have HH:Hid (Calls Tryz.prog 55 #[.slice av n cv,.func (.func 56) #[] #[.pointer (some ⟨w.heap.size,0,none⟩)]] w3 fun e w'=>e= .returned (.bool (E.any (fun x=>x.t.nm.toList == nm.toList)))/\Below w3.heap.size w3 w'):=
   MV (p:=fun x=>x.t.nm.toList == nm.toList) w3 HE3.out q0 (enters_of Tryz.func56 (by kernel_rfl) rfl) (fun x _ a1 l1 c1 a2 l2 c2 wx hx=>Q8 wx hx _ _ _ _ _ a1 a2 l1 c1 l2 c2 rfl rfl)
  clear hn q0;go_wp2_with fail;refine(show Calls _ _ _ _ _ from HH.out).mono ?_;rintro _ w4 ⟨rfl,hb4⟩;have HV4:Hid (Ac w.heap.size [.string nm,.slice ac nc cc,.slice none 0 0] w4):=HV3.out.below hb4;have HC4:Hid (BV bc bt bp bd bm N L w4):=HC3.out.below hb4;have HR4:Hid (A8 B (.slice ac nc cc) cs w4):=A8.below HR3.out hb4;have HB4:Hid (Below w.heap.size w w4):=HB3.out.trans (hb4.mono HB3.out.size);have HE4:Hid (AI w2.heap.size (.slice av n cv) E w4):=HE3.out.below hb4;clear hb4 HV3 HC3 HR3 HB3 HE3 HH
  cases hany:E.any (fun x=>x.t.nm.toList == nm.toList)
  ·have HNO:Hid (∀t∈L,t.nm≠nm):=fun t ht e=>by
    rw[<-HMP.out]at ht;obtain⟨x,hx,rfl⟩:=List.mem_map.1 ht;have:=List.any_eq_false.1 hany x hx;exact this (by rw[e];simp)
   clear hany
   by_cases h20:20<=n
   ·have i1:(20:Int)<=(n:Int):=by omega
    go_wp2;go_ret;exact .inr ⟨fun e=>by have:=e.2.2;have:=HN.out;omega,_,_,rfl,HB4.out⟩
   ·have i1:¬(20:Int)<=(n:Int):=by omega
    have C0:Hid (w4.drew.cell? ⟨w.heap.size,0,none⟩=some (.string nm)/\w4.drew.cell? ⟨w.heap.size,1,none⟩=some (.slice ac nc cc)/\w4.drew.cell? ⟨w.heap.size,2,none⟩=some (.slice none 0 0)):=HV4.out.drew.c3;have HBD:Hid (Below w4.heap.size w4 w4.drew):=(Below.refl _ _).drew;go_wp2_with fail
    go_region_held3 (fun wx=>wx.cell? ⟨w.heap.size,0,none⟩=some (.string nm)/\wx.cell? ⟨w.heap.size,1,none⟩=some (.slice ac nc cc)/\wx.cell? ⟨w.heap.size,2,none⟩=some (.slice none 0 0)) (first|exact C0.out|exact C1.out|exact C2.out|exact C3.out) (first
     |(go_at_call 59;refine(Se _ (HE4.out.below HBD.out) (by have:=HEL.out;have:=HN.out;omega)).mono ?_;rintro _ w5 ⟨⟨id,rfl,hid1,hid2,hid3⟩,hb5⟩;have HID3:Hid (∀t∈L,t.id≠id):=(fun t ht=>by rw[<-HMP.out]at ht;obtain⟨x,hx,rfl⟩:=List.mem_map.1 ht;exact hid3 x hx);have HID2:Hid (id<=L.length+1):=(by rw[<-HEL.out];exact hid2);have hidn:id<=n+1:=(by have:=HID2.out;have:=HN.out;omega);have HB5:Hid (Below w4.heap.size w4 w5):=HBD.out.trans (hb5.mono HBD.out.size);have C1:Hid (w5.cell? ⟨w.heap.size,0,none⟩=some (.string nm)/\w5.cell? ⟨w.heap.size,1,none⟩=some (.slice ac nc cc)/\w5.cell? ⟨w.heap.size,2,none⟩=some (.slice none 0 0)):=⟨Ae hb5 C0.out.1,Ae hb5 C0.out.2.1,Ae hb5 C0.out.2.2⟩;clear hb5 hid2 hid3)
     |(go_at_call 58;refine(NL (t:=⟨id,nm,cs,1⟩) (Bi:=0) (is_:=[]) w5 (A8.below HR4.out HB5.out) (World.ownsRow_nil _ _ _ _) (by show id<256;omega) (by show 1<256;decide) (by show nm.size<=1000;have:=Bg HNM.out;omega) (by have:=HCR.out.six;show cs.length<=100;omega) (fun c hc=>⟨by rcases(HCR.out.ok c hc).kd with e|e<;>omega,by have:=Bg (HCR.out.ok c hc).nm;omega,by rw[HCR.out.ix c hc];rfl⟩)).mono ?_;rintro _ w6 ⟨v6,rfl,hr6,hb6⟩;have HR6:Hid (BU w5.heap.size v6 (Tb.prs ⟨id,nm,cs,1⟩) w6):=hr6;have HB6:Hid (Below w4.heap.size w4 w6):=HB5.out.trans (hb6.mono HB5.out.size);have C2:Hid (w6.cell? ⟨w.heap.size,0,none⟩=some (.string nm)/\w6.cell? ⟨w.heap.size,1,none⟩=some (.slice ac nc cc)/\w6.cell? ⟨w.heap.size,2,none⟩=some (.slice none 0 0)):=⟨Ae hb6 C1.out.1,Ae hb6 C1.out.2.1,Ae hb6 C1.out.2.2⟩;clear hr6 hb6)
     |(go_at_call 57;have HOK:Hid (Tb.Ok ⟨id,nm,cs,1⟩):=⟨HNM.out,⟨hid1,by show id<=20;omega⟩,HCR.out.six,HCR.out.ok,by show 1<256;decide⟩;refine(Jd (HC4.out.below HB6.out).prs HR6.out (by have:=HB4.out.size;have:=HB5.out.size;omega) (fun x hx=>U9 HOK.out hx) (OU (FO HOK.out)) (by have:=Rx HOK.out;have:=HN.out;omega) (by rw[Co];have:=HCR.out.six;show cs.length+1<=100;omega) (by omega)).mono ?_;rintro _ w7 ⟨rfl,hp7,ho7⟩;have HP7:Hid _:=hp7;have HO7:Hid (Aa (fun b=>b=bp\/b=bm) w6 w7):=ho7;have C3:Hid (w7.cell? ⟨w.heap.size,0,none⟩=some (.string nm)/\w7.cell? ⟨w.heap.size,1,none⟩=some (.slice ac nc cc)/\w7.cell? ⟨w.heap.size,2,none⟩=some (.slice none 0 0)):=⟨(ho7.cell (World.block_lt_of_cell? _ _ C2.out.1) (fun e=>by rcases e with e|e;(have e':w.heap.size=bp:=e;omega);(have e':w.heap.size=bm:=e;omega)) 0).trans C2.out.1,(ho7.cell (World.block_lt_of_cell? _ _ C2.out.1) (fun e=>by rcases e with e|e;(have e':w.heap.size=bp:=e;omega);(have e':w.heap.size=bm:=e;omega)) 1).trans C2.out.2.1,(ho7.cell (World.block_lt_of_cell? _ _ C2.out.1) (fun e=>by rcases e with e|e;(have e':w.heap.size=bp:=e;omega);(have e':w.heap.size=bm:=e;omega)) 2).trans C2.out.2.2⟩;clear hp7 ho7))
    go_wp2;go_ret;refine .inl ⟨⟨HNM.out,HNO.out,by have:=HN.out;omega⟩,rfl,id,hid1,by omega,HID3.out,HID2.out,?_,(Ab (HB4.out.trans (HB6.out.mono HB4.out.size)) _).trans HO7.out (fun _ e=> .inl e)⟩;refine BV.mono (PrS.cat HC4.out.ok HC4.out.srt HOK.out HNO.out HP7.out) ?_;rw[Co];have:=HCR.out.six;show N+40 * (cs.length+1)<=_;omega
  ·have HYES:Hid (¬May L nm):=fun e=>by
    obtain⟨x,hx,hn⟩:=List.any_eq_true.1 hany;exact e.2.1 x.t (by rw[<-HMP.out];exact List.mem_map.2 ⟨x,hx,rfl⟩) (BM hn)
   clear hany;go_wp2;go_ret;exact .inr ⟨HYES.out,_,_,rfl,HB4.out⟩
end
end
end Go.Proofs.YtihnldkgeelehaaGreatDoor
