/- MatchFinds: part 24. -/
import Derived.Test.YtgfldnaahojnlaaGreatDoorF23
set_option maxRecDepth 100000
set_option maxHeartbeats 4000000
namespace Go.Proofs.YtgfldnaahojnlaaGreatDoor
section
open Go.RowKit
def AC {σ:Type} (stp:σ->Pl->Bool×σ):σ->List Pl->List Pl
 |_,[]=>[]
 |s,p::l=>if(stp s p).1 then p::AC stp (stp s p).2 l else AC stp (stp s p).2 l
theorem Jq {σ:Type} (stp:σ->Pl->Bool×σ) (l:List Pl):∀s,(AC stp s l).length<=l.length:=by
 induction l with
 |nil=>intro s;simp[AC]
 |cons p l ih=>
  intro s;have:=ih (stp s p).2;unfold AC;split<;>simp only[List.length_cons]<;>omega
theorem If {σ:Type} (stp:σ->Pl->Bool×σ) (l:List Pl):∀s,(AC stp s l).Sublist l:=by
 induction l with
 |nil=>intro s;simp[AC]
 |cons p l ih=>
  intro s;unfold AC;split
  ·exact(ih _).cons_cons p
  ·exact(ih _).cons p
theorem Jb {W W':World} {row:Option Nat} (hg:W.grownBy W' row) (b o:Nat) (h:b<W.heap.size) (hne:row≠some b):W'.cell? ⟨b,o,none⟩=W.cell? ⟨b,o,none⟩:=
 World.cell?_of_block (w:=W) (hg.block b h (fun e=>hne e.symm))
theorem NN {σ:Type} (B:Nat) (I:σ->World->Prop) (stp:σ->Pl->Bool×σ) (hI:∀s w w',I s w->Below B w w'->w'.heap[B]? =w.heap[B]? ->I s w') (Ok:Pl->Prop)
  (hcl:∀s p wx,Ok p->B<wx.heap.size->I s wx->Calls Tryz.prog 192 #[.agg #[.int .i64 p.r,.int .i64 p.a],.pointer (some ⟨B,0,none⟩)] wx fun e w'=>e= .returned (.bool (stp s p).1)/\I (stp s p).2 w'/\wx.grownBy w' (some B))
  (a:Option Addr) (len cap:Nat) (xs:List Pl) (s0:σ) (w:World) (hr:FI w a len xs) (hlt:∀b o,a=some ⟨b,o,none⟩->xs≠[]->b<B) (hB:B<w.heap.size) (hok:∀p∈xs,Ok p) (hs0:I s0 w) (hlen:xs.length<=100000):
  Calls Tryz.prog 191 #[.slice a len cap,.func (.func 192) #[] #[.pointer (some ⟨B,0,none⟩)]] w fun e w'=>∃v,e= .returned v/\w'.ownsRow (B+1) 81 2 v (AC stp s0 xs).length (plc (AC stp s0 xs))/\Below B w w':=by
 obtain⟨i0,hi,hz0,hz1,hz2⟩:=A5 He;have HI:Hid (∀s w w',I s w->Below B w w'->w'.heap[B]? =w.heap[B]? ->I s w'):=hI;have HCL:Hid (∀s p wx,Ok p->B<wx.heap.size->I s wx->Calls Tryz.prog 192 #[.agg #[.int .i64 p.r,.int .i64 p.a],.pointer (some ⟨B,0,none⟩)] wx fun e w'=>e= .returned (.bool (stp s p).1)/\I (stp s p).2 w'/\wx.grownBy w' (some B)):=hcl;have HOK:Hid (∀p∈xs,Ok p):=hok;clear hI hcl hok;obtain⟨rfl,hm,hx⟩:=hr;obtain⟨T,hT⟩:∃T,AC stp s0 xs=T:=⟨_,rfl⟩;have HT:Hid (AC stp s0 xs=T/\T.length<=xs.length):=⟨hT,by rw[<-hT];exact Jq stp xs s0⟩;rw[hT];clear hT;go_enter Tryz.func191,Tryz.ntmps191;go_wp2;go_loopw [5,10] (fun v i wr=>∃(k:Nat) (s:σ) (l:List Pl),k<=xs.length/\i= .int .i64 k/\Hid (I s wr/\Below B w wr/\l++AC stp s (xs.drop k)=T)/\Hid (wr.ownsRow (B+1) 81 2 v l.length (plc l))) (fun _ i _=>xs.length-(intOf i).toNat)
 case atStart=>exact⟨0,s0,[],Nat.zero_le _,rfl,⟨hs0,Below.refl _ _,HT.out.1⟩,World.ownsRow_nil _ _ _ _⟩
 case round=>
  obtain⟨k,s,l,hk,rfl,hz,hown⟩:=hrel;clear hs0
  by_cases hkl:k<xs.length
  ·have hLL:l.length<=xs.length:=by
    have h1:=HT.out.2;rw[<-hz.out.2.2]at h1;rw[List.length_append]at h1;omega
   rcases hx with hx|⟨b,off,rfl,hb,hrow⟩
   ·simp[hx]at hkl
   have hbB:b<B:=hlt b off rfl (fun e=>by rw[e]at hkl;simp at hkl);obtain⟨g1,g2⟩:=hrow k hkl;clear hrow;rw[<-hz.out.2.1.cell (p:=⟨b,_,none⟩) hbB]at g1 g2;have hok:=HOK.out xs[k] (List.getElem_mem hkl);have hz2':=hz.out.2.2;rw[List.drop_eq_getElem_cons hkl]at hz2';have i1:(k:Int)<(xs.length:Int):=by omega
   generalize xs[k]=q at *;have HS:Hid (I s wr):=hz.out.1;have HB:Hid (Below B w wr):=hz.out.2.1;have HZ:Hid (l++AC stp s (q::xs.drop (k+1))=T):=hz2';have HQ:Hid (Ok q):=hok;have hBr:B<wr.heap.size:=Nat.lt_of_lt_of_le hB HB.out.size;clear hz hz2' hok hlt;have HX1:Hid (Az wr.heap.size q (wr.alloc (.cells #[.int .i64 q.r,.int .i64 q.a] 81))):=Az.box wr q;have HA:Hid (Below wr.heap.size wr (wr.alloc (.cells #[.int .i64 q.r,.int .i64 q.a] 81))):=(Below.refl _ _).alloc (Nat.le_refl _) _;have HS1:Hid (I s (wr.alloc (.cells #[.int .i64 q.r,.int .i64 q.a] 81))):=HI.out s wr _ HS.out (HA.out.mono (by omega)) (HA.out.block B hBr);have HO1:Hid ((wr.alloc (.cells #[.int .i64 q.r,.int .i64 q.a] 81)).ownsRow (B+1) 81 2 u5 l.length (plc l)):=Bi hown.out HA.out;have hB1:B<(wr.alloc (.cells #[.int .i64 q.r,.int .i64 q.a] 81)).heap.size:=by simp;omega
   have HB1:Hid (Below B w (wr.alloc (.cells #[.int .i64 q.r,.int .i64 q.a] 81))):=HB.out.trans (HA.out.mono (by omega));obtain⟨c1,c2,_,_,_⟩:=HX1.out;go_wp2_with fail;refine(HCL.out s q _ HQ.out hB1 HS1.out).mono ?_;rintro _ w2 ⟨rfl,hs2,hg2⟩;have HS2:Hid (I (stp s q).2 w2):=hs2;have HB2:Hid (Below B w w2):=HB1.out.grown hg2 (by omega) (fun g hg=>by cases hg;exact Nat.le_refl _)
   have HO2:Hid (w2.ownsRow (B+1) 81 2 u5 l.length (plc l)):=HO1.out.kept hg2 (by
    cases e:u5.ownBlock with
    |none=>exact .inl rfl
    |some g=>exact .inr (fun e2=>by cases e2;have:=(HO1.out.lt _ e).1;omega))
   have hs2':wr.heap.size+1<=w2.heap.size:=by have:=hg2.size;simpa using this
   have k1:w2.cell? ⟨wr.heap.size,0,none⟩=some (.int .i64 q.r):=by
    rw[Jb hg2 _ _ (by simp) (by simp;omega)];exact c1
   have k2:w2.cell? ⟨wr.heap.size,1,none⟩=some (.int .i64 q.a):=by
    rw[Jb hg2 _ _ (by simp) (by simp;omega)];exact c2
   clear c1 c2 hg2 hs2 HS1 HO1 HB1 hB1 HX1 HA HS HB hown g1 g2;obtain⟨bb,hbb⟩:∃bb,(stp s q).1=bb:=⟨_,rfl⟩;obtain⟨s2,hss⟩:∃s2,(stp s q).2=s2:=⟨_,rfl⟩;rw[hbb];rw[hss]at HS2
   have HZ2:Hid (l++(if bb then q::AC stp s2 (xs.drop (k+1))else AC stp s2 (xs.drop (k+1)))=T):=by
    show _=_;rw[<-HZ.out,AC,hbb,hss]
   clear hbb hss HZ
   cases bb
   ·have HZ3:Hid (l++AC stp s2 (xs.drop (k+1))=T):=HZ2.out
    clear HZ2;go_wp2;go_roundw
    case rel=>exact⟨k+1,s2,l,by omega,by go_num,⟨HS2.out,HB2.out,HZ3.out⟩,HO2⟩
    case measure=>simp[intOf];omega
   ·have HZ3:Hid ((l++[q])++AC stp s2 (xs.drop (k+1))=T):=by show _=_;rw[List.append_assoc];exact HZ2.out
    clear HZ2
    go_wp2_with (at_builtin;refine wpList_append_own _ rfl _ _ 91 rfl (B+1) 81 i0 (.agg #[.int .i64 0,.int .i64 0]) 2 16 Tryz.underlying91 hi hz0 hz1 hz2 rfl (by decide) _ _ _ rfl (HO2.out.alloc _) ⟨w2.heap.size,0,none⟩ 1 1 (plc [q]) rfl rfl (G6 w2 q 81) (I8 q) (by simp[maxLen];omega) (by omega) (by simp;omega) ?_)
    intro v3 w3 ho3 hg3 _;have HB3:Hid (Below B w w3):=(HB2.out.alloc (by omega) _).grown hg3 (by simp;omega) (fun g hg=>by have:=(HO2.out.lt g hg).1;omega)
    have HS3:Hid (I s2 w3):=HI.out s2 w2 w3 HS2.out (((Below.refl B w2).alloc (by omega) _).grown hg3 (by simp;omega) (fun g hg=>by have:=(HO2.out.lt g hg).1;omega)) (by
     rw[hg3.block B (by simp;omega) (fun e=>by have:=(HO2.out.lt _ e.symm).1;omega)];exact((Below.refl _ w2).alloc (Nat.le_refl _) _).block B (by omega))
    have HO3:Hid (w3.ownsRow (B+1) 81 2 v3 (l++[q]).length (plc (l++[q]))):=Bc ho3 (by simp) (by rw[Cc]);clear ho3 hg3 k1 k2 HS2 HB2 HO2;go_wp2;go_roundw
    case rel=>exact⟨k+1,s2,l++[q],by omega,by go_num,⟨HS3.out,HB3.out,HZ3.out⟩,HO3⟩
    case measure=>simp[intOf];omega
  ·have e:l=T:=by
    have:=hz.out.2.2;rw[List.drop_eq_nil_of_le (by omega)]at this;simpa [AC]using this
   subst e;go_wp2;go_ret;exact⟨_,rfl,hown.out,hz.out.2.1⟩
theorem Aq {w w':World} (h:Below w.heap.size w w') (row:Option Nat):w.grownBy w' row:=⟨h.os,h.tape,h.output,h.size,fun k hk _=>h.block k hk⟩
def beh (p:Pl):Pl:=⟨p.r,p.a+1⟩
set_option maxHeartbeats 1000000
theorem KC (p:Pl) (h0:0<=p.a) (h1:p.a<1073741824) (w:World):Calls Tryz.prog 193 #[.agg #[.int .i64 p.r,.int .i64 p.a]] w fun e w'=>e= .returned (.agg #[.int .i64 (beh p).r,.int .i64 (beh p).a])/\Below w.heap.size w w':=by
 have HE:Hid (beh p=⟨p.r,p.a+1⟩):=rfl;go_enter Tryz.func193,Tryz.ntmps193;go_wp2;rw[HE.out];exact bodyPost_ret (v:= .agg #[.int .i64 p.r,.int .i64 (p.a+1)]) (by simp[results,Tryz.results193,go_sem]) rfl ⟨rfl,((Below.refl _ _).alloc (Nat.le_refl _) _).alloc (by simp) _⟩
def GP (p:Pl):List Pl->Bool
 | []=>false
 |z::_=>decide (beh z=p)
def Cl (p:Pl):List Pl->List Pl
 | []=>[]
 |z::zs=>if BO (beh z) p<0 then Cl p zs else z::zs
def Cz:List Pl->Pl->Bool×List Pl:=fun zs p=>(GP p (Cl p zs),Cl p zs)
def My (w:World) (B:Nat):Nat:=match w.cell? ⟨B,0,none⟩with|some v=>A4 v|none=>0
theorem L8 {w:World} {B:Nat} {v:Value} (h:w.cell? ⟨B,0,none⟩=some v):My w B=A4 v:=by simp[My,h]
def OkP (p:Pl):Prop:=1<=p.r/\p.r<=1073741824/\0<=p.a/\p.a<1073741824
def IF (w0:World) (B:Nat) (zs:List Pl) (wx:World):Prop:=(∃v,wx.cell? ⟨B,0,none⟩=some v/\InP w0 v zs)/\wx.frozen? ⟨B,0,none⟩=false/\Below B w0 wx/\∀z∈zs,OkP z
theorem IF.step {w0:World} {B:Nat} {zs:List Pl} {wx wy:World} (h:IF w0 B zs wx) (hb:Below B wx wy) (he:wy.heap[B]? =wx.heap[B]?):IF w0 B zs wy:=by
 obtain⟨⟨v,h1,h2⟩,h3,h4,h5⟩:=h;exact⟨⟨v,by rw[<-h1];exact World.cell?_of_block he,h2⟩,by rw[<-h3];exact World.frozen?_of_block he,h4.trans hb,h5⟩
def FE (w0:World) (B b o n c bp:Nat) (z p:Pl) (wa wx:World):Prop:=
 (wx.cell? ⟨B,0,none⟩=some (.slice (some ⟨b,o,none⟩) (n+1) c)/\wx.cell? ⟨b,o,none⟩=some (.int .i64 z.r)/\wx.cell? ⟨b,o+1,none⟩=some (.int .i64 z.a)/\wx.cell? ⟨bp,0,none⟩=some (.int .i64 p.r)/\wx.cell? ⟨bp,1,none⟩=some (.int .i64 p.a))/\
 (b<w0.heap.size/\B<wa.heap.size/\bp<wa.heap.size/\w0.heap.size<=B)/\Below wa.heap.size wa wx
theorem FE.step {w0:World} {B b o n c bp:Nat} {z p:Pl} {wa wx wy:World} (h:FE w0 B b o n c bp z p wa wx) (hb:Below wx.heap.size wx wy):FE w0 B b o n c bp z p wa wy:=by
 obtain⟨⟨h1,h2,h3,h4,h5⟩,⟨h6,h7,h8,h9⟩,h10⟩:=h;have s:=h10.size;refine⟨⟨?_,?_,?_,?_,?_⟩,⟨h6,h7,h8,h9⟩,h10.trans (hb.mono s)⟩
 ·rw[hb.cell (p:=⟨B,_,none⟩) (by show B<_;omega)];exact h1
 ·rw[hb.cell (p:=⟨b,_,none⟩) (by show b<_;omega)];exact h2
 ·rw[hb.cell (p:=⟨b,_,none⟩) (by show b<_;omega)];exact h3
 ·rw[hb.cell (p:=⟨bp,_,none⟩) (by show bp<_;omega)];exact h4
 ·rw[hb.cell (p:=⟨bp,_,none⟩) (by show bp<_;omega)];exact h5
theorem FE.drew {w0:World} {B b o n c bp:Nat} {z p:Pl} {wa wx:World} (h:FE w0 B b o n c bp z p wa wx):FE w0 B b o n c bp z p wa wx.drew:=h.step (Below.refl _ _).drew
set_option maxHeartbeats 4000000
theorem S7 (w0:World) (B:Nat) (zs:List Pl) (p:Pl) (w:World) (h0:w0.heap.size<=B) (hB:B<w.heap.size) (hI:IF w0 B zs w):
  Calls Tryz.prog 192 #[.agg #[.int .i64 p.r,.int .i64 p.a],.pointer (some ⟨B,0,none⟩)] w fun e w'=>e= .returned (.bool (Cz zs p).1)/\IF w0 B (Cz zs p).2 w'/\w.grownBy w' (some B):=by
 have st:=Qo;have gd:=QO;obtain⟨D,hD⟩:∃D,Cl p zs=D:=⟨_,rfl⟩;have HD:Hid (Cl p zs=D):=hD;simp only[Cz,hD];clear hD;have HA:Hid (Below w.heap.size w (w.alloc (.cells #[.int .i64 p.r,.int .i64 p.a] 81))):=(Below.refl _ _).alloc (Nat.le_refl _) _;have HI:Hid (IF w0 B zs (w.alloc (.cells #[.int .i64 p.r,.int .i64 p.a] 81))):=IF.step hI (HA.out.mono (by omega)) (HA.out.block B hB);have HV:Hid (Az w.heap.size p (w.alloc (.cells #[.int .i64 p.r,.int .i64 p.a] 81))):=Az.box w p;clear hI;go_enter Tryz.func192,Tryz.ntmps192;go_wp2;go_loopw [4] (fun _ wr=>∃zs:List Pl,Hid (IF w0 B zs wr/\Az w.heap.size p wr/\w.grownBy wr (some B)/\Cl p zs=D)) (fun _ wr=>My wr B)
 case atStart=>exact⟨zs,HI.out,HV.out,Aq HA.out _,HD.out⟩
 case round=>
  clear HI HV HA HD;obtain⟨zs,hz⟩:=hrel;obtain⟨⟨v,hcell,a,c,rfl,hc,hr,_⟩,hfz,hbl,hok⟩:=hz.out.1;have hsz:=hz.out.2.2.1.size;have hpv:=hz.out.2.1
  cases zs with
  |nil=>
   have e:D=[]:=by have:=hz.out.2.2.2;simpa [Cl]using this.symm
   subst e;simp only[List.length_nil]at hcell;have HZ:Hid (IF w0 B [] wr/\w.grownBy wr (some B)):=⟨hz.out.1,hz.out.2.2.1⟩;clear hz hpv hbl hok hr hfz;go_wp2;go_quiet (fail);go_wp2;go_quiet (fail);go_wp2;go_ret;refine⟨rfl,?_,?_⟩
   ·exact IF.step HZ.out.1 (below_drewN (below_drewN (Below.refl _ _) _) _) rfl
   ·exact HZ.out.2.trans (Aq (below_drewN (below_drewN (Below.refl _ _) _) _) _)
  |cons z zs=>
   have HOK:Hid (∀z'∈zs,OkP z'):=fun z' hz'=>hok z' (by simp[hz']);obtain⟨ok1,ok2,ok3,ok4⟩:=hok z (by simp);rcases hr.2.2 with hx|⟨b,o,rfl,hb,hrow⟩
   ·cases hx
   obtain⟨g1,g2⟩:=hrow 0 (by simp);simp only[Nat.zero_mul,Nat.add_zero,List.getElem_cons_zero]at g1 g2;rw[<-hbl.cell (p:=⟨b,_,none⟩) (by show b<B;omega)]at g1 g2;simp only[List.length_cons]at hcell hc;have HIN:Hid (InP w0 (.slice (some ⟨b,o,none⟩) (zs.length+1) c) (z::zs)):=⟨_,_,rfl,by simpa using hc,hr,fun e=>by cases e⟩;obtain⟨n,hn⟩:∃n,zs.length=n:=⟨_,rfl⟩;rw[hn]at hcell hc HIN;have hml:My wr B=n+1:=L8 hcell;have HFE:Hid (FE w0 B b o n c w.heap.size z p wr wr):=⟨⟨hcell,g1,g2,hpv.1,hpv.2.1⟩,⟨hb,by omega,hpv.2.2.2.2,h0⟩,Below.refl _ _⟩;have HZ:Hid (IF w0 B (z::zs) wr/\Az w.heap.size p wr/\w.grownBy wr (some B)/\Cl p (z::zs)=D):=hz.out;have d1:decide ((0:Int)<(n:Int)+1)=true:=by simp
   clear hz hok hr hrow hfz hbl hpv g1 g2 hcell;obtain⟨cc,hcc⟩:∃cc,BO (beh z) p=cc:=⟨_,rfl⟩;have HCC:Hid (BO (beh z) p=cc):=hcc;clear hcc;go_wp2_with fail;have HFE:Hid _:=FE.drew HFE.out
   go_region_held3 (fun w'=>w'.cell? ⟨B,0,none⟩=some (.slice (some ⟨b,o,none⟩) (n+1) c)/\w'.cell? ⟨b,o,none⟩=some (.int .i64 z.r)/\w'.cell? ⟨b,o+1,none⟩=some (.int .i64 z.a)/\w'.cell? ⟨w.heap.size,0,none⟩=some (.int .i64 p.r)/\w'.cell? ⟨w.heap.size,1,none⟩=some (.int .i64 p.a)) (exact HFE.out.1)
    (first
      |(go_at_call 193;refine Calls.mono (KC z ok3 ok4 _) ?_;rintro _ w2 ⟨rfl,hb2⟩;have HFE:Hid _:=FE.step HFE.out hb2;clear hb2)
      |(go_at_call 179;refine Calls.mono (CD (beh z) p _ HCC.out _) ?_;rintro _ w3 ⟨rfl,hb3⟩;have HFE:Hid _:=FE.step HFE.out hb3;clear hb3))
   have HB3:Hid (Below wr.heap.size wr w3):=HFE.out.2.2;have hB3:B<wr.heap.size:=by omega
   have HI3:Hid (IF w0 B (z::zs) w3):=IF.step HZ.out.1 (HB3.out.mono (by omega)) (HB3.out.block B hB3);have HV3:Hid (Az w.heap.size p w3):=Az.below HZ.out.2.1 HB3.out;have HG3:Hid (w.grownBy w3 (some B)):=HZ.out.2.2.1.trans (Aq HB3.out _)
   by_cases hneg:cc<0
   ·have HD2:Hid (Cl p zs=D):=by show _=_;rw[<-HZ.out.2.2.2,Cl,if_pos (by rw[HCC.out];exact hneg)]
    obtain⟨q1,_⟩:=HFE.out.1;have f1:=HI3.out.2.1;clear HFE HZ HCC;go_wp2;go_roundw
    case rel=>
     refine⟨zs,⟨⟨_,World.cell?_setCell_same _ _ _ q1,HIN.out.tail⟩,by rw[World.frozen?_setCell];exact f1,HI3.out.2.2.1.setCell (p:=⟨B,0,none⟩) (Nat.le_refl _) _,HOK.out⟩,?_,HG3.out.trans (Dm w3 B 0 _),HD2.out⟩;obtain⟨y1,y2,y3,y4,y5⟩:=HV3.out;refine⟨?_,?_,?_,?_,?_⟩
     ·rw[World.cell?_setCell_other _ _ _ _ (fun e=>by cases e;omega)];exact y1
     ·rw[World.cell?_setCell_other _ _ _ _ (fun e=>by cases e)];exact y2
     ·rw[World.frozen?_setCell];exact y3
     ·rw[World.frozen?_setCell];exact y4
     ·simpa [World.setCell]using y5
    case measure=>
     rw[hml,L8 (World.cell?_setCell_same _ _ _ q1)];simp[A4]
   ·have e:D=z::zs:=by rw[<-HZ.out.2.2.2,Cl,if_neg (by rw[HCC.out];exact hneg)]
    subst e;have HI:Hid (IF w0 B (z::zs) wr):=HZ.out.1;have HG:Hid (w.grownBy wr (some B)):=HZ.out.2.2.1;clear HZ HCC;obtain⟨m1,em1⟩:∃m,((beh z).r == p.r)=m:=⟨_,rfl⟩;obtain⟨m2,em2⟩:∃m,((beh z).a == p.a)=m:=⟨_,rfl⟩
    have HH:Hid (GP p (z::zs)=(m1 && m2)):=by
     show _=_;rw[<-em1,<-em2,GP,Bool.eq_iff_iff];obtain⟨pr,pa⟩:=p;simp[beh]
    cases m1<;>cases m2<;>(
     go_wp2_with fail;have HFE:Hid _:=FE.drew HFE.out
     go_region_held3 (fun w'=>w'.cell? ⟨B,0,none⟩=some (.slice (some ⟨b,o,none⟩) (n+1) c)/\w'.cell? ⟨b,o,none⟩=some (.int .i64 z.r)/\w'.cell? ⟨b,o+1,none⟩=some (.int .i64 z.a)/\w'.cell? ⟨w.heap.size,0,none⟩=some (.int .i64 p.r)/\w'.cell? ⟨w.heap.size,1,none⟩=some (.int .i64 p.a)) (exact HFE.out.1)
      ((go_at_call 193;refine Calls.mono (KC z ok3 ok4 _) ?_;rintro _ w4 ⟨rfl,hb4⟩;have HFE:Hid _:=FE.step HFE.out hb4;clear hb4))
     go_wp2;go_ret;exact⟨by rw[HH.out];rfl,IF.step HI.out (HFE.out.2.2.mono (by omega)) (HFE.out.2.2.block B hB3),HG.out.trans (Aq HFE.out.2.2 _)⟩)
set_option maxHeartbeats 1000000
theorem PC (va vb:Value) (xs ys:List Pl) (w:World) (h1:InP w va xs) (h2:InP w vb ys) (hok:∀z∈xs,OkP z) (hl:ys.length<=100000):
  Calls Tryz.prog 146 #[va,vb] w fun e w'=>∃v',e= .returned v'/\w'.ownsRow w.heap.size 81 2 v' (AC Cz xs ys).length (plc (AC Cz xs ys))/\Below w.heap.size w w':=by
 obtain⟨a1,c1,rfl,q1,q2,q3⟩:=h1;have H1:Hid (InP w (.slice a1 xs.length c1) xs):=⟨a1,c1,rfl,q1,q2,q3⟩;clear q1 q2 q3;obtain⟨a,cap,rfl,_,hr,_⟩:=h2;have HR:Hid (FI w a ys.length ys):=hr;have HOK:Hid (∀z∈xs,OkP z):=hok;clear hr hok;obtain⟨T,hT⟩:∃T,AC Cz xs ys=T:=⟨_,rfl⟩;have HK:Hid (AC Cz xs ys=T):=hT;rw[hT];clear hT;go_enter Tryz.func146,Tryz.ntmps146;go_wp2_with fail;have HA:Hid (Below w.heap.size w (w.alloc (.cells #[.slice a1 xs.length c1] 91))):=(Below.refl _ _).alloc (Nat.le_refl _) _;refine(NN w.heap.size (IF w w.heap.size) Cz (fun s w1 w2 h hb he=>IF.step h hb he) (fun _=>True) (fun s p wx _ hB hc=>S7 w w.heap.size s p wx (Nat.le_refl _) hB hc) a ys.length cap ys xs _ (FI.below HR.out HA.out) ?h3 (by simp) (fun _ _=>trivial) ?h4 hl).mono ?_
 case h3=>
  intro b o e hne;rcases HR.out.2.2 with h|⟨b',o',e',hb,_⟩
  ·exact absurd h hne
  ·rw[e]at e';cases e';exact hb
 case h4=>
  have hn:=heap_alloc_new w (.cells #[.slice a1 xs.length c1] 91);exact⟨⟨_,by simp,H1.out⟩,by simp only[World.frozen?,hn];simp,HA.out,HOK.out⟩
 rintro _ w2 ⟨v2,rfl,ho2,hb2⟩;rw[HK.out]at ho2;have HO2:Hid (w2.ownsRow w.heap.size 81 2 v2 T.length (plc T)):=G4 ho2 (by omega);have HB2:Hid (Below w.heap.size w w2):=HA.out.trans hb2;clear ho2 hb2;go_wp2;go_ret;exact⟨_,rfl,HO2.out,HB2.out⟩
theorem M9:(Tryz.prog.info? 3).map (fun i=>(i.zero,i.size,i.bytes))=some (some (.int .i64 0),1,8):=by kernel_rfl
def icc (l:List Int):List Value:=l.map fun x=>Value.int .i64 x
theorem Hf (a b:List Int):icc (a++b)=icc a++icc b:=by simp[icc]
def Bu (l:List Int) (r:Int):List Int:=if l.getLast? =some r then l else l++[r]
theorem IR (l:List Int) (r:Int):(Bu l r).length<=l.length+1:=by unfold Bu;split<;>simp
theorem H9 (x:Int):∀u∈[Value.int .i64 x],u.oneCell'=true:=by intro y hy;simp at hy;subst hy;rfl
theorem GQ (B:Nat) (v:Value) (l:List Int) (r:Int) (w:World) (hown:w.ownsRow B 3 1 v l.length (icc l)) (hB:B<=w.heap.size) (hl:l.length<=900000):
  Calls Tryz.prog 197 #[v,.int .i64 r] w fun e w'=>∃v',e= .returned v'/\w'.ownsRow B 3 1 v' (Bu l r).length (icc (Bu l r))/\Below B w w':=by
 obtain⟨i0,hi,hz0,hz1,hz2⟩:=A5 M9;have HO:Hid (w.ownsRow B 3 1 v l.length (icc l)):=hown
 by_cases h0:l=[]
 ·subst h0
  have e:Bu [] r=[r]:=by simp[Bu]
  rw[e]
  have hv:∃a c,v= .slice a 0 c:=by
   rcases hown.2 with⟨h,_⟩|⟨g,c,cur,h,_⟩
   ·exact⟨none,0,h⟩
   ·exact⟨_,c,h⟩
  obtain⟨a,c,rfl⟩:=hv;clear hown;go_enter Tryz.func197,Tryz.ntmps197
  go_wp2_with (at_builtin;refine wpList_append_own _ rfl _ _ 95 rfl B 3 i0 (.int .i64 0) 1 8 Tryz.underlying95 hi hz0 hz1 hz2 rfl (by decide) _ _ _ rfl (HO.out.alloc _) ⟨w.heap.size,0,none⟩ 1 1 [.int .i64 r] rfl rfl (cell_one_new _ _ _) (H9 _) (by simp[maxLen]) (by simp) (by simp;omega) ?_)
  intro v' w1 ho' hg _;have HB1:Hid (Below B w w1):=((Below.refl B w).alloc hB _).grown hg (by simp;omega) (fun g h=>(HO.out.lt g h).1);have HO1:Hid (w1.ownsRow B 3 1 v' [r].length (icc [r])):=Bc ho' (by simp) (by simp[icc]);clear ho' hg HO;go_wp2;go_ret;exact⟨_,rfl,HO1.out,HB1.out⟩
 ·obtain⟨n,hn⟩:∃n,l.length=n+1:=⟨l.length-1,by have:=List.length_pos_iff.2 h0;omega⟩
  have hlast:l.getLast? =some l[n]:=by rw[List.getLast?_eq_getElem?];simp[hn]
  rcases hown.2 with⟨_,h⟩|⟨g,c,cur,hv,hBg,hg,_⟩
  ·omega
  subst hv
  have hcell:w.cell? ⟨g,n,none⟩=some (.int .i64 l[n]):=by
   have:=hown.cells (g:=g) rfl n (.int .i64 l[n]) (by simp[icc,hn]);rw[Go.WideShapes.add_plain,Nat.zero_add]at this;exact this
  obtain⟨y,hy⟩:∃y,l[n]=y:=⟨_,rfl⟩;rw[hy]at hcell hlast;have HAR:Hid (Bu l r=if y=r then l else l++[r]):=by show _=_;simp[Bu,hlast]
  clear hown hlast hy hg;rw[hn]at HO hl ⊢;have d1:decide ((0:Int)<(n:Int)+1)=true:=by simp
  by_cases hyr:y=r
  ·subst hyr
   have HR:Hid (Bu l y=l):=by show _=_;rw[HAR.out,if_pos rfl]
   go_enter Tryz.func197,Tryz.ntmps197;go_wp2;go_ret;rw[HR.out,hn];exact⟨_,rfl,HO.out,Below.refl _ _⟩
  ·have j1:(y == r)=false:=by simpa using hyr
   have HR:Hid (Bu l r=l++[r]):=by show _=_;rw[HAR.out,if_neg hyr]
   go_enter Tryz.func197,Tryz.ntmps197
   go_wp2_with (at_builtin;refine wpList_append_own _ rfl _ _ 95 rfl B 3 i0 (.int .i64 0) 1 8 Tryz.underlying95 hi hz0 hz1 hz2 rfl (by decide) _ _ _ rfl (HO.out.alloc _) ⟨w.heap.size,0,none⟩ 1 1 [.int .i64 r] rfl rfl (cell_one_new _ _ _) (H9 _) (by simp[maxLen];omega) (by omega) (by simp;omega) ?_)
   intro v' w1 ho' hg _;have HB1:Hid (Below B w w1):=((Below.refl B w).alloc hB _).grown hg (by simp;omega) (fun g h=>(HO.out.lt g h).1);have HO1:Hid (w1.ownsRow B 3 1 v' (l++[r]).length (icc (l++[r]))):=Bc ho' (by simp[hn]) (by simp[icc]);clear ho' hg HO;go_wp2;go_ret;rw[HR.out];exact⟨_,rfl,HO1.out,HB1.out⟩
theorem Th (m n:Int) (h1:0<=m) (h2:m<1073741824) (h3:0<=n) (h4:n<1073741824) (w:World):Calls Tryz.prog 196 #[.int .i64 m,.int .i64 n] w fun e w'=>e= .returned (.int .i64 (max (m-n) (n-m)))/\w'=w:=by
 by_cases h:m-n<n-m
 ·go_enter Tryz.func196,Tryz.ntmps196
  go_wp2;go_ret;exact⟨N5 (by omega),rfl⟩
 ·go_enter Tryz.func196,Tryz.ntmps196
  go_wp2;go_ret;exact⟨N5 (by omega),rfl⟩
theorem Iq (m n d:Int) (hd:max (m-n) (n-m)=d) (h1:0<=m) (h2:m<1073741824) (h3:0<=n) (h4:n<1073741824) (w:World):Calls Tryz.prog 196 #[.int .i64 m,.int .i64 n] w fun e w'=>e= .returned (.int .i64 d)/\w'=w:=by
 rw[<-hd];exact Th m n h1 h2 h3 h4 w
def Ag (far:Int):List Int->List Pl->List Pl->List Int
 |acc,[],_=>acc
 |acc,_::_,[]=>acc
 |acc,x::a,y::b=>
  if BO x y<0 then Ag far (if x.r=y.r/\max (x.a-y.a) (y.a-x.a)<=far then Bu acc x.r else acc) a (y::b)
  else Ag far (if x.r=y.r/\max (x.a-y.a) (y.a-x.a)<=far then Bu acc x.r else acc) (x::a) b
termination_by _ a b=>a.length+b.length
decreasing_by all_goals (simp only[List.length_cons];omega)
theorem Ga (far:Int) (acc:List Int) (a:List Pl):Ag far acc a []=acc:=by cases a<;>simp[Ag]
def NE (w:World) (b1 o1:Nat) (x:Pl) (b2 o2:Nat) (y:Pl) (v:Value) (l:List Int) (wx:World):Prop:=
 (wx.cell? ⟨b1,o1,none⟩=some (.int .i64 x.r)/\wx.cell? ⟨b1,o1+1,none⟩=some (.int .i64 x.a)/\wx.cell? ⟨b2,o2,none⟩=some (.int .i64 y.r)/\wx.cell? ⟨b2,o2+1,none⟩=some (.int .i64 y.a))/\
 (b1<w.heap.size/\b2<w.heap.size)/\Below w.heap.size w wx/\wx.ownsRow w.heap.size 3 1 v l.length (icc l)
theorem NE.grow {w wx wy:World} {b1 o1 b2 o2:Nat} {x y:Pl} {v v':Value} {l l':List Int} (h:NE w b1 o1 x b2 o2 y v l wx) (hb:Below w.heap.size wx wy) (ho:wy.ownsRow w.heap.size 3 1 v' l'.length (icc l')):NE w b1 o1 x b2 o2 y v' l' wy:=by
 obtain⟨⟨h1,h2,h3,h4⟩,⟨h5,h6⟩,h7,h8⟩:=h;refine⟨⟨?_,?_,?_,?_⟩,⟨h5,h6⟩,h7.trans hb,ho⟩
 ·rw[hb.cell (p:=⟨b1,_,none⟩) h5];exact h1
 ·rw[hb.cell (p:=⟨b1,_,none⟩) h5];exact h2
 ·rw[hb.cell (p:=⟨b2,_,none⟩) h6];exact h3
 ·rw[hb.cell (p:=⟨b2,_,none⟩) h6];exact h4
theorem NE.step {w wx wy:World} {b1 o1 b2 o2:Nat} {x y:Pl} {v:Value} {l:List Int} (h:NE w b1 o1 x b2 o2 y v l wx) (hb:Below wx.heap.size wx wy):NE w b1 o1 x b2 o2 y v l wy:=
 NE.grow h (hb.mono h.2.2.1.size) (Bi h.2.2.2 hb)
theorem NE.drew {w wx:World} {b1 o1 b2 o2:Nat} {x y:Pl} {v:Value} {l:List Int} (h:NE w b1 o1 x b2 o2 y v l wx):NE w b1 o1 x b2 o2 y v l wx.drew:=h.step (Below.refl _ _).drew
set_option maxHeartbeats 4000000
theorem U3 (va vb:Value) (far:Int) (xs ys:List Pl) (w:World) (h1:InP w va xs) (h2:InP w vb ys) (hl1:xs.length<=100000) (hl2:ys.length<=100000) (hk1:∀z∈xs,OkP z) (hk2:∀z∈ys,OkP z):
  Calls Tryz.prog 149 #[va,vb,.int .i64 far] w fun e w'=>∃v,e= .returned v/\w'.ownsRow w.heap.size 3 1 v (Ag far [] xs ys).length (icc (Ag far [] xs ys))/\Below w.heap.size w w':=by
 obtain⟨T,hT⟩:∃T,Ag far [] xs ys=T:=⟨_,rfl⟩;have HT:Hid (Ag far [] xs ys=T):=hT;rw[hT];clear hT;have H1:Hid (InP w va xs/\∀z∈xs,OkP z):=⟨h1,hk1⟩;have H2:Hid (InP w vb ys/\∀z∈ys,OkP z):=⟨h2,hk2⟩;obtain⟨a1,c1,rfl,hc1,_,_⟩:=h1;obtain⟨a2,c2,rfl,hc2,_,_⟩:=h2;clear hk1 hk2;go_enter Tryz.func149,Tryz.ntmps149;go_wp2;go_loopw [0,1,7] (fun x y v wr=>∃(xs ys:List Pl) (l:List Int),Hid (InP w x xs/\InP w y ys/\Ag far l xs ys=T/\(∀z∈xs,OkP z)/\(∀z∈ys,OkP z))/\Hid (wr.ownsRow w.heap.size 3 1 v l.length (icc l)/\Below w.heap.size w wr)/\l.length+xs.length+ys.length<=200000) (fun x y _ _=>A4 x+A4 y)
 case atStart=>exact⟨xs,ys,[],⟨H1.out.1,H2.out.1,HT.out,H1.out.2,H2.out.2⟩,⟨World.ownsRow_nil _ _ _ _,Below.refl _ _⟩,by simp;omega⟩
 case round=>
  clear HT H1 H2 hc1 hc2 hl1 hl2;obtain⟨xs,ys,l,hz,hown,hlen⟩:=hrel;obtain⟨a1,c1,rfl,hc1,hr1,_⟩:=hz.out.1;obtain⟨a2,c2,rfl,hc2,hr2,_⟩:=hz.out.2.1
  by_cases hemp:xs=[]\/ys=[]
  ·have e:l=T:=by
    rw[<-hz.out.2.2.1];rcases hemp with e|e
    ·subst e;simp[Ag]
    ·subst e;rw[Ga]
   have hb:(xs.length=0/\True)\/((decide (0<xs.length)=true/\ys.length=0)/\True):=by
    rcases hemp with e|e
    ·subst e;exact .inl ⟨rfl,trivial⟩
    ·subst e
     by_cases h:xs.length=0
     ·exact .inl ⟨h,trivial⟩
     ·exact .inr ⟨⟨by simp;omega,rfl⟩,trivial⟩
   subst e;have HO:Hid (wr.ownsRow w.heap.size 3 1 u7 l.length (icc l)/\Below w.heap.size w wr):=hown.out;clear hemp hz hr1 hr2 hown;obtain⟨n1,e1⟩:∃n,xs.length=n:=⟨_,rfl⟩;obtain⟨n2,e2⟩:∃n,ys.length=n:=⟨_,rfl⟩;rw[e1,e2]at hb ⊢;rcases hb with⟨h,_⟩|⟨⟨d1,h⟩,_⟩
   ·rw[h]
    clear h e1 e2;go_wp2;go_ret;exact⟨_,rfl,HO.out.1,HO.out.2⟩
   ·rw[h]
    clear h e1 e2;go_wp2;go_ret;exact⟨_,rfl,HO.out.1,HO.out.2⟩
  ·obtain⟨x,xs,rfl⟩:∃x t,xs=x::t:=by
    cases xs with
    |nil=>exact absurd (.inl rfl) hemp
    |cons x t=>exact⟨x,t,rfl⟩
   obtain⟨y,ys,rfl⟩:∃y t,ys=y::t:=by
    cases ys with
    |nil=>exact absurd (.inr rfl) hemp
    |cons y t=>exact⟨y,t,rfl⟩
   clear hemp;have HOK:Hid ((∀z∈xs,OkP z)/\(∀z∈y::ys,OkP z)/\(∀z∈x::xs,OkP z)/\(∀z∈ys,OkP z)):=⟨fun z h=>hz.out.2.2.2.1 z (by simp[h]),hz.out.2.2.2.2,hz.out.2.2.2.1,fun z h=>hz.out.2.2.2.2 z (by simp[h])⟩;obtain⟨x1,x2,x3,x4⟩:=hz.out.2.2.2.1 x (by simp);obtain⟨y1,y2,y3,y4⟩:=hz.out.2.2.2.2 y (by simp);simp only[List.length_cons]at *;obtain⟨n1,e1⟩:∃n,xs.length=n:=⟨_,rfl⟩;obtain⟨n2,e2⟩:∃n,ys.length=n:=⟨_,rfl⟩;rcases hr1.2.2 with hx|⟨b1,o1,rfl,hb1,hrow1⟩
   ·cases hx
   rcases hr2.2.2 with hx|⟨b2,o2,rfl,hb2,hrow2⟩
   ·cases hx
   obtain⟨g1,g2⟩:=hrow1 0 (by simp);obtain⟨g3,g4⟩:=hrow2 0 (by simp);simp only[Nat.zero_mul,Nat.add_zero,List.getElem_cons_zero]at g1 g2 g3 g4;rw[<-hown.out.2.cell (p:=⟨b1,_,none⟩) hb1]at g1 g2;rw[<-hown.out.2.cell (p:=⟨b2,_,none⟩) hb2]at g3 g4;clear hrow1 hrow2 hr1 hr2;have HI1:Hid (InP w (.slice (some ⟨b1,o1,none⟩) (n1+1) c1) (x::xs)):=by rw[<-e1];exact hz.out.1
   have HI2:Hid (InP w (.slice (some ⟨b2,o2,none⟩) (n2+1) c2) (y::ys)):=by rw[<-e2];exact hz.out.2.1
   have HZ:Hid (Ag far l (x::xs) (y::ys)=T):=hz.out.2.2.1;rw[e1]at hc1 hlen ⊢;rw[e2]at hc2 hlen ⊢;have d1:decide ((0:Int)<(n1:Int)+1)=true:=by simp
   have d2:decide ((0:Int)<(n2:Int)+1)=true:=by simp
   have HM:Hid (NE w b1 o1 x b2 o2 y u7 l wr):=⟨⟨g1,g2,g3,g4⟩,⟨hb1,hb2⟩,hown.out.2,hown.out.1⟩;clear g1 g2 g3 g4 hown hz;obtain⟨cc,hcc⟩:∃cc,BO x y=cc:=⟨_,rfl⟩;have HCC:Hid (BO x y=cc):=hcc;obtain⟨dd,hdd⟩:∃dd,max (x.a-y.a) (y.a-x.a)=dd:=⟨_,rfl⟩;have HDD:Hid (max (x.a-y.a) (y.a-x.a)=dd):=hdd
   have HZ1:Hid ((if cc<0 then Ag far (if x.r=y.r/\dd<=far then Bu l x.r else l) xs (y::ys)else Ag far (if x.r=y.r/\dd<=far then Bu l x.r else l) (x::xs) ys)=T):=by
    show _=_;rw[<-HZ.out,Ag,hcc,hdd]
   clear hcc hdd HZ
   by_cases hlt:cc<0
   ·rw[if_pos hlt]at HZ1
    by_cases hrr:x.r=y.r
    ·have j1:(x.r == y.r)=true:=by simpa using hrr
     by_cases hdf:dd<=far
     ·have j2:decide (dd<=far)=true:=by simpa using hdf
      have HZ2:Hid (Ag far (Bu l x.r) xs (y::ys)=T):=by show _=_;rw[<-HZ1.out,if_pos ⟨hrr,hdf⟩]
      clear hrr HZ1;go_wp2_with fail;obtain⟨k1,k2,k3,k4⟩:=HM.out.1
      go_quiet ((go_at_call 196;refine Calls.quiet_of_same (Iq x.a y.a dd HDD.out (by omega) (by omega) (by omega) (by omega) _)));have HM:Hid _:=NE.step HM.out (below_drewN (Below.refl _ _) nq);clear k1 k2 k3 k4;obtain⟨k1,k2,k3,k4⟩:=HM.out.1;go_wp2_with fail;refine(GQ w.heap.size u7 l x.r _ HM.out.2.2.2 HM.out.2.2.1.size (by omega)).mono ?_;rintro _ w2 ⟨v2,rfl,ho2,hb2⟩;have HM:Hid (NE w b1 o1 x b2 o2 y v2 (Bu l x.r) w2):=NE.grow HM.out hb2 ho2;have hle:=IR l x.r;clear ho2 hb2 k1 k2 k3 k4;go_wp2_with fail;have HM:Hid _:=NE.drew HM.out
      go_region_held3 (fun w'=>w'.cell? ⟨b1,o1,none⟩=some (.int .i64 x.r)/\w'.cell? ⟨b1,o1+1,none⟩=some (.int .i64 x.a)/\w'.cell? ⟨b2,o2,none⟩=some (.int .i64 y.r)/\w'.cell? ⟨b2,o2+1,none⟩=some (.int .i64 y.a)) (exact HM.out.1)
       ((go_at_call 179;refine Calls.mono (CD x y _ HCC.out _) ?_;rintro _ w3 ⟨rfl,hb3⟩;have HM:Hid _:=NE.step HM.out hb3;clear hb3))
      go_wp2;go_roundw
      case rel=>exact⟨xs,y::ys,Bu l x.r,⟨HI1.out.tail,HI2.out,HZ2.out,HOK.out.1,HOK.out.2.1⟩,⟨HM.out.2.2.2,HM.out.2.2.1⟩,by simp only[List.length_cons];omega⟩
      case measure=>simp[A4]<;>omega
     ·have j2:decide (dd<=far)=false:=by simpa using hdf
      have HZ2:Hid (Ag far l xs (y::ys)=T):=by show _=_;rw[<-HZ1.out,if_neg (fun h=>hdf h.2)]
      clear hrr HZ1;go_wp2_with fail;obtain⟨k1,k2,k3,k4⟩:=HM.out.1
      go_quiet ((go_at_call 196;refine Calls.quiet_of_same (Iq x.a y.a dd HDD.out (by omega) (by omega) (by omega) (by omega) _)));have HM:Hid _:=NE.step HM.out (below_drewN (Below.refl _ _) nq);clear k1 k2 k3 k4;go_wp2_with fail;have HM:Hid _:=NE.drew HM.out
      go_region_held3 (fun w'=>w'.cell? ⟨b1,o1,none⟩=some (.int .i64 x.r)/\w'.cell? ⟨b1,o1+1,none⟩=some (.int .i64 x.a)/\w'.cell? ⟨b2,o2,none⟩=some (.int .i64 y.r)/\w'.cell? ⟨b2,o2+1,none⟩=some (.int .i64 y.a)) (exact HM.out.1)
       ((go_at_call 179;refine Calls.mono (CD x y _ HCC.out _) ?_;rintro _ w3 ⟨rfl,hb3⟩;have HM:Hid _:=NE.step HM.out hb3;clear hb3))
      go_wp2;go_roundw
      case rel=>exact⟨xs,y::ys,l,⟨HI1.out.tail,HI2.out,HZ2.out,HOK.out.1,HOK.out.2.1⟩,⟨HM.out.2.2.2,HM.out.2.2.1⟩,by simp only[List.length_cons];omega⟩
      case measure=>simp[A4]<;>omega
    ·have j1:(x.r == y.r)=false:=by simpa using hrr
     have HZ2:Hid (Ag far l xs (y::ys)=T):=by show _=_;rw[<-HZ1.out,if_neg (fun h=>hrr h.1)]
     clear HZ1;go_wp2_with fail;obtain⟨k1,k2,k3,k4⟩:=HM.out.1;go_quiet (fail);have HM:Hid _:=NE.step HM.out (below_drewN (Below.refl _ _) nq);clear k1 k2 k3 k4;go_wp2_with fail;have HM:Hid _:=NE.drew HM.out
     go_region_held3 (fun w'=>w'.cell? ⟨b1,o1,none⟩=some (.int .i64 x.r)/\w'.cell? ⟨b1,o1+1,none⟩=some (.int .i64 x.a)/\w'.cell? ⟨b2,o2,none⟩=some (.int .i64 y.r)/\w'.cell? ⟨b2,o2+1,none⟩=some (.int .i64 y.a)) (exact HM.out.1)
      ((go_at_call 179;refine Calls.mono (CD x y _ HCC.out _) ?_;rintro _ w3 ⟨rfl,hb3⟩;have HM:Hid _:=NE.step HM.out hb3;clear hb3))
     go_wp2;go_roundw
     case rel=>exact⟨xs,y::ys,l,⟨HI1.out.tail,HI2.out,HZ2.out,HOK.out.1,HOK.out.2.1⟩,⟨HM.out.2.2.2,HM.out.2.2.1⟩,by simp only[List.length_cons];omega⟩
     case measure=>simp[A4]<;>omega
   ·rw[if_neg hlt]at HZ1
    by_cases hrr:x.r=y.r
    ·have j1:(x.r == y.r)=true:=by simpa using hrr
     by_cases hdf:dd<=far
     ·have j2:decide (dd<=far)=true:=by simpa using hdf
      have HZ2:Hid (Ag far (Bu l x.r) (x::xs) ys=T):=by show _=_;rw[<-HZ1.out,if_pos ⟨hrr,hdf⟩]
      clear hrr HZ1;go_wp2_with fail;obtain⟨k1,k2,k3,k4⟩:=HM.out.1
      go_quiet ((go_at_call 196;refine Calls.quiet_of_same (Iq x.a y.a dd HDD.out (by omega) (by omega) (by omega) (by omega) _)));have HM:Hid _:=NE.step HM.out (below_drewN (Below.refl _ _) nq);clear k1 k2 k3 k4;obtain⟨k1,k2,k3,k4⟩:=HM.out.1;go_wp2_with fail;refine(GQ w.heap.size u7 l x.r _ HM.out.2.2.2 HM.out.2.2.1.size (by omega)).mono ?_;rintro _ w2 ⟨v2,rfl,ho2,hb2⟩;have HM:Hid (NE w b1 o1 x b2 o2 y v2 (Bu l x.r) w2):=NE.grow HM.out hb2 ho2;have hle:=IR l x.r;clear ho2 hb2 k1 k2 k3 k4;go_wp2_with fail;have HM:Hid _:=NE.drew HM.out
      go_region_held3 (fun w'=>w'.cell? ⟨b1,o1,none⟩=some (.int .i64 x.r)/\w'.cell? ⟨b1,o1+1,none⟩=some (.int .i64 x.a)/\w'.cell? ⟨b2,o2,none⟩=some (.int .i64 y.r)/\w'.cell? ⟨b2,o2+1,none⟩=some (.int .i64 y.a)) (exact HM.out.1)
       ((go_at_call 179;refine Calls.mono (CD x y _ HCC.out _) ?_;rintro _ w3 ⟨rfl,hb3⟩;have HM:Hid _:=NE.step HM.out hb3;clear hb3))
      go_wp2;go_roundw
      case rel=>exact⟨x::xs,ys,Bu l x.r,⟨HI1.out,HI2.out.tail,HZ2.out,HOK.out.2.2.1,HOK.out.2.2.2⟩,⟨HM.out.2.2.2,HM.out.2.2.1⟩,by simp only[List.length_cons];omega⟩
      case measure=>simp[A4]<;>omega
     ·have j2:decide (dd<=far)=false:=by simpa using hdf
      have HZ2:Hid (Ag far l (x::xs) ys=T):=by show _=_;rw[<-HZ1.out,if_neg (fun h=>hdf h.2)]
      clear hrr HZ1;go_wp2_with fail;obtain⟨k1,k2,k3,k4⟩:=HM.out.1
      go_quiet ((go_at_call 196;refine Calls.quiet_of_same (Iq x.a y.a dd HDD.out (by omega) (by omega) (by omega) (by omega) _)));have HM:Hid _:=NE.step HM.out (below_drewN (Below.refl _ _) nq);clear k1 k2 k3 k4;go_wp2_with fail;have HM:Hid _:=NE.drew HM.out
      go_region_held3 (fun w'=>w'.cell? ⟨b1,o1,none⟩=some (.int .i64 x.r)/\w'.cell? ⟨b1,o1+1,none⟩=some (.int .i64 x.a)/\w'.cell? ⟨b2,o2,none⟩=some (.int .i64 y.r)/\w'.cell? ⟨b2,o2+1,none⟩=some (.int .i64 y.a)) (exact HM.out.1)
       ((go_at_call 179;refine Calls.mono (CD x y _ HCC.out _) ?_;rintro _ w3 ⟨rfl,hb3⟩;have HM:Hid _:=NE.step HM.out hb3;clear hb3))
      go_wp2;go_roundw
      case rel=>exact⟨x::xs,ys,l,⟨HI1.out,HI2.out.tail,HZ2.out,HOK.out.2.2.1,HOK.out.2.2.2⟩,⟨HM.out.2.2.2,HM.out.2.2.1⟩,by simp only[List.length_cons];omega⟩
      case measure=>simp[A4]<;>omega
    ·have j1:(x.r == y.r)=false:=by simpa using hrr
     have HZ2:Hid (Ag far l (x::xs) ys=T):=by show _=_;rw[<-HZ1.out,if_neg (fun h=>hrr h.1)]
     clear HZ1;go_wp2_with fail;obtain⟨k1,k2,k3,k4⟩:=HM.out.1;go_quiet (fail);have HM:Hid _:=NE.step HM.out (below_drewN (Below.refl _ _) nq);clear k1 k2 k3 k4;go_wp2_with fail;have HM:Hid _:=NE.drew HM.out
     go_region_held3 (fun w'=>w'.cell? ⟨b1,o1,none⟩=some (.int .i64 x.r)/\w'.cell? ⟨b1,o1+1,none⟩=some (.int .i64 x.a)/\w'.cell? ⟨b2,o2,none⟩=some (.int .i64 y.r)/\w'.cell? ⟨b2,o2+1,none⟩=some (.int .i64 y.a)) (exact HM.out.1)
      ((go_at_call 179;refine Calls.mono (CD x y _ HCC.out _) ?_;rintro _ w3 ⟨rfl,hb3⟩;have HM:Hid _:=NE.step HM.out hb3;clear hb3))
     go_wp2;go_roundw
     case rel=>exact⟨x::xs,ys,l,⟨HI1.out,HI2.out.tail,HZ2.out,HOK.out.2.2.1,HOK.out.2.2.2⟩,⟨HM.out.2.2.2,HM.out.2.2.1⟩,by simp only[List.length_cons];omega⟩
     case measure=>simp[A4]<;>omega
end
end Go.Proofs.YtgfldnaahojnlaaGreatDoor
