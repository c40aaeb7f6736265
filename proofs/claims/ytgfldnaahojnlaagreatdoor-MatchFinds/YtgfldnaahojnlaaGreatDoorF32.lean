/- MatchFinds: part 32. -/
import Derived.Test.YtgfldnaahojnlaaGreatDoorF31
set_option maxRecDepth 100000
set_option maxHeartbeats 4000000
namespace Go.Proofs.YtgfldnaahojnlaaGreatDoor
section
open Go.RowKit
def QOk:Qy->Prop
 | .nil=>True
 | .node _ ws a b=>(∀x∈ws,x.size<=100)/\QOk a/\QOk b
def szQ:Qy->Nat
 | .nil=>0
 | .node _ _ a b=>1+szQ a+szQ b
def QGd:Qy->Prop
 | .nil=>False
 | .node k ws a b=>k=1/\ws≠[]\/k=2/\(∃s,ws=[s])\/k=3/\(∃u v,ws=[u,v])\/EA k=true/\QGd a/\QGd b
def QSz (q:Qy):Prop:=QOk q/\szQ q+1<=2 * lvs q/\QGd q
def Iw (f:Rst->Qy×Rst):Prop:=∀s,lvs (f s).1+(f s).2.nu<=s.nu/\((f s).2.bad=0->QSz (f s).1)
theorem SF (s:Rst):(s.fails 4).bad≠0:=by
 unfold Rst.fails;split
 ·intro h;cases h
 ·assumption
theorem JS {q:Qy} (h1:lvs q=1) (h2:szQ q=1) (h:QOk q) (g:QGd q):QSz q:=⟨h,by omega,g⟩
theorem MX {k:Int} {a b:Qy} (hk:EA k=true) (ha:QSz a) (hb:QSz b):QSz (.node k [] a b):=
 ⟨⟨fun _ h=>(by cases h),ha.1,hb.1⟩,by
   have h1:=ha.2.1;have h2:=hb.2.1;rw[lvs,if_pos hk,szQ];omega,.inr (.inr (.inr ⟨hk,ha.2.2,hb.2.2⟩))⟩
theorem EG (s:Rst):(s.fails 3).bad≠0:=by
 unfold Rst.fails;split
 ·intro h;cases h
 ·assumption
theorem T8 (s:Rst) (x:ByteArray):(s.take x).2.bad=s.bad:=by unfold Rst.take;split<;>rfl
theorem SY (x:ByteArray) (l:List UInt8):∀s:Rst,s.bad≠0->(s.begins x l).bad≠0:=by
 induction l with
 |nil=>intro s h;exact h
 |cons c r ih=>
  intro s h;unfold Rst.begins;refine ih _ ?_;split
  ·exact EG s
  ·exact h
theorem SZ {x:ByteArray} {c:UInt8} {l:List UInt8} {s:Rst} (h:(s.begins x (c::l)).bad=0):x.size<=12:=by
 rcases Nat.lt_or_ge 12 x.size with hx|hx
 ·exfalso
  unfold Rst.begins at h;rw[if_pos (by rw[decide_eq_true hx,Bool.or_true])]at h;exact SY x l _ (EG s) h
 ·exact hx
theorem NB (s:Rst) (x:ByteArray):(s.plain x).1.size<=100:=by
 unfold Rst.plain;split
 ·rename_i y h
  have:=(LU (l:=x.data.toList) (w:=y) (by rw[h];simp)).le;show y.size<=100;omega
 ·exact Nat.zero_le _
theorem Sa (p:ByteArray) (s:Rst):lvs (C7 p s).1=1/\szQ (C7 p s).1=1/\QOk (C7 p s).1/\QGd (C7 p s).1:=by
 have e1:EA 1=false:=rfl;have e3:EA 3=false:=rfl;have h0:=NB s p;unfold C7;simp only;split
 ·split
  ·exact⟨rfl,rfl,⟨fun x hx=>by rw[List.mem_singleton.1 hx];exact h0,trivial,trivial⟩,.inl ⟨rfl,by simp⟩⟩
  ·refine⟨rfl,rfl,⟨fun x hx=> ?_,trivial,trivial⟩,.inr (.inr (.inl ⟨rfl,_,_,rfl⟩))⟩
   rcases List.mem_cons.1 hx with rfl|hx
   ·exact h0
   ·rw[List.mem_singleton.1 hx];exact NB _ _
 ·exact⟨rfl,rfl,⟨fun x hx=>by rw[List.mem_singleton.1 hx];exact h0,trivial,trivial⟩,.inl ⟨rfl,by simp⟩⟩
theorem NO {any:Rst->Qy×Rst} (E6:Bool) (ha:E6=false->Iw any):Iw (DR any E6):=by
 intro s;have z:lvs Jy=0:=rfl
 have key:s.peek≠Ax->0<s.nu:=fun h=>by
  obtain⟨hb,r,hl⟩:=CL h;unfold Rst.nu;rw[if_pos hb,hl];simp
 unfold DR;simp only;split
 ·rw[C6 _ _ (by decide)]
  exact⟨by rw[z];omega,fun h=>absurd h (SF _)⟩
 ·rename_i hov
  split
  ·rename_i hp
   obtain⟨a1,a2⟩:=ha (by simpa using hov) (s.take B9).2;have h1:=Da hp (by decide);have h3:=CY (any (s.take B9).2).2 AA;refine⟨?_,fun hb=>a2 ?_⟩
   ·split
    ·simp only;omega
    ·simp only;rw[C6 _ _ (by decide)];omega
   ·split at hb
    ·rw[T8]at hb;exact hb
    ·exact absurd hb (EG _)
  ·split
   ·rw[C6 _ _ (by decide)]
    exact⟨by rw[z];omega,fun h=>absurd h (EG _)⟩
   ·rename_i hp hno
    have hne:s.peek≠Ax:=fun e=>hno (by rw[e];decide);have h1:=Da (s:=s) rfl hne;split
    ·refine⟨?_,fun hb=>JS rfl rfl ⟨fun x hx=> ?_,trivial,trivial⟩ (.inl ⟨rfl,fun e=> ?_⟩)⟩
     ·have e:lvs (.node 1 (Ad (s.peek.data.toList.drop 1)) .nil .nil)=1:=rfl
      simp only;rw[e];split
      ·rw[C6 _ _ (by decide)];omega
      ·omega
     ·have:=(LU hx).le
      omega
     ·simp only at hb
      rw[if_pos e]at hb;exact EG _ hb
    ·have h2:=CY (s.take s.peek).2 Ao
     split
     ·have h3:=Lz s.peek (Aw s.peek.data.toList) ((s.take s.peek).2.take Ao).2
      have e:lvs (.node 2 [A6 s.peek] .nil .nil)=1:=rfl;refine⟨by simp only;rw[e];omega,fun hb=>JS rfl rfl ⟨fun x hx=> ?_,trivial,trivial⟩ (.inr (.inl ⟨rfl,_,rfl⟩))⟩;rw[List.mem_singleton.1 hx,Dk];have hl:(Aw s.peek.data.toList).length=s.peek.size:=by exact D8 _
      cases hc:Aw s.peek.data.toList with
      |nil=>rw[hc]at hl;simp at hl;omega
      |cons c l=>
       simp only at hb;rw[hc]at hb;have:=SZ hb;omega
     ·have h3:=Q2 s.peek ((s.take s.peek).2.take Ao).2
      obtain⟨n1,n3,n2,n4⟩:=Sa s.peek ((s.take s.peek).2.take Ao).2;exact⟨by rw[n1];omega,fun _=>JS n1 n3 n2 n4⟩
theorem Tm {one:Rst->Qy×Rst} (ha:Iw one):∀f q s,lvs (CW one f q s).1+(CW one f q s).2.nu<=lvs q+s.nu/\(QSz q->(CW one f q s).2.bad=0->QSz (CW one f q s).1):=by
 intro f
 induction f with
 |zero=>intro q s;exact⟨Nat.le_refl _,fun h _=>h⟩
 |succ f ih=>
  intro q s;unfold CW;split
  ·have h1:=CY s BK
   have h2:=CY (s.take BK).2 D7;simp only;obtain⟨k,hk⟩:∃k:Int,(if(s.take BK).1 then(6:Int)else 4)=k:=⟨_,rfl⟩;have hkt:EA k=true:=by rw[<-hk];split<;>rfl
   obtain⟨s1,hs1⟩:∃s1,(if(s.take BK).1 then(s.take BK).2 else((s.take BK).2.take D7).2)=s1:=⟨_,rfl⟩;have h3:s1.nu<=s.nu:=by rw[<-hs1];split<;>omega
   rw[hk,hs1];obtain⟨a1,a2⟩:=ha s1;obtain⟨i1,i2⟩:=ih (.node k [] q (one s1).1) (one s1).2;have e:lvs (.node k [] q (one s1).1)=lvs q+lvs (one s1).1:=by rw[lvs,if_pos hkt]
   refine⟨by rw[e]at i1;omega,fun hq hb=> ?_⟩
   by_cases hb1:(one s1).2.bad=0
   ·exact i2 (MX hkt hq (a2 hb1)) hb
   ·rw[LL _ _ _ _ hb1]at hb
    exact absurd hb hb1
  ·exact⟨Nat.le_refl _,fun h _=>h⟩
theorem VC {one:Rst->Qy×Rst} (ha:Iw one):Iw (Dz one):=by
 intro s;obtain⟨a1,a2⟩:=ha s;obtain⟨i1,i2⟩:=Tm ha (one s).2.nu (one s).1 (one s).2;unfold Dz;refine⟨by simp only;omega,fun hb=> ?_⟩
 by_cases hb1:(one s).2.bad=0
 ·exact i2 (a2 hb1) hb
 ·simp only at hb
  rw[LL _ _ _ _ hb1]at hb;exact absurd hb hb1
theorem Tj {all:Rst->Qy×Rst} (ha:Iw all):∀f q s,lvs (El all f q s).1+(El all f q s).2.nu<=lvs q+s.nu/\(QSz q->(El all f q s).2.bad=0->QSz (El all f q s).1):=by
 intro f
 induction f with
 |zero=>intro q s;exact⟨Nat.le_refl _,fun h _=>h⟩
 |succ f ih=>
  intro q s;have h1:=CY s tOr;unfold El;simp only;split
  ·obtain⟨a1,a2⟩:=ha (s.take tOr).2
   obtain⟨i1,i2⟩:=ih (.node 5 [] q (all (s.take tOr).2).1) (all (s.take tOr).2).2;have e:lvs (.node 5 [] q (all (s.take tOr).2).1)=lvs q+lvs (all (s.take tOr).2).1:=by rw[lvs,if_pos (by rfl)]
   refine⟨by rw[e]at i1;omega,fun hq hb=> ?_⟩
   by_cases hb1:(all (s.take tOr).2).2.bad=0
   ·exact i2 (MX rfl hq (a2 hb1)) hb
   ·rw[LK _ _ _ _ hb1]at hb
    exact absurd hb hb1
  ·exact⟨by simp only;omega,fun h _=>h⟩
theorem KG {one:Rst->Qy×Rst} (ha:Iw one):Iw (EH one):=by
 intro s;have hall:=VC ha;obtain⟨a1,a2⟩:=hall s;obtain⟨i1,i2⟩:=Tj hall (Dz one s).2.nu (Dz one s).1 (Dz one s).2;unfold EH;refine⟨by simp only;omega,fun hb=> ?_⟩
 by_cases hb1:(Dz one s).2.bad=0
 ·exact i2 (a2 hb1) hb
 ·simp only at hb
  rw[LK _ _ _ _ hb1]at hb;exact absurd hb hb1
theorem JT (m:Nat):Iw (BM m):=by
 induction m with
 |zero=>exact NO true (fun h=>by cases h)
 |succ m ih=>exact NO false (fun _=>KG ih)
theorem V7 (L:List ByteArray):lvs (IN L).1<=L.length/\QOk (IN L).1/\szQ (IN L).1<=2 * lvs (IN L).1:=by
 obtain⟨h1,h2⟩:=KG (JT 13) ⟨L,0⟩;have hn:(⟨L,0⟩:Rst).nu=L.length:=rfl;obtain⟨r,hr⟩:∃r,EH (BM 13) ⟨L,0⟩=r:=⟨_,rfl⟩;rw[hr]at h1 h2;obtain⟨s,hs⟩:∃s,(if r.2.l=[]then r.2 else r.2.fails 3)=s:=⟨_,rfl⟩
 have hsb:s.bad=0->r.2.bad=0:=fun h=>by
  rw[<-hs]at h;split at h
  ·exact h
  ·exact absurd h (EG _)
 have e:(IN L).1=if s.bad=0 then r.1 else .nil:=by unfold IN;simp only[hr,hs]
 rw[e]
 by_cases hb:s.bad=0
 ·rw[if_pos hb]
  have h3:=h2 (hsb hb);exact⟨by omega,h3.1,by have:=h3.2.1;omega⟩
 ·rw[if_neg hb]
  exact⟨Nat.zero_le _,trivial,Nat.zero_le _⟩
theorem V8 (L:List ByteArray) (h:(IN L).2=0):QGd (IN L).1:=by
 obtain⟨_,h2⟩:=KG (JT 13) ⟨L,0⟩;obtain⟨r,hr⟩:∃r,EH (BM 13) ⟨L,0⟩=r:=⟨_,rfl⟩;rw[hr]at h2;unfold IN at h ⊢;simp only[hr]at h ⊢;split at h
 ·rename_i hl
  rw[if_pos hl,if_pos h];exact(h2 h).2.2
 ·exact absurd h (EG _)
end
section
open Go.RowKit Go.Maps
theorem Tf (s:ByteArray) (hs:s.size<=400):lvs (BN s).1<=400/\QOk (BN s).1/\szQ (BN s).1<=1000:=by
 cases h:A0 s s.size 0 with
 |none=>rw[GD h];exact⟨Nat.zero_le _,trivial,Nat.zero_le _⟩
 |some L=>
  rw[GC h];obtain⟨h1,h2,h3⟩:=V7 L;have:=(IX s s.size 0 L h).1;exact⟨by omega,h2,by omega⟩
section
variable {pls:ByteArray->List Pl} {beg:ByteArray->List ByteArray}
def Iu (pls:ByteArray->List Pl) (r:Int):Prop:=∃wd,∃p∈pls wd,p.r=r
theorem Qj {k:Int} {a b:List Ht} (ha:∀x∈a,Iu pls x.r) (hb:∀x∈b,Iu pls x.r):∀x∈Ak k a b,Iu pls x.r:=fun z hz=>by
 rcases LY k a b z hz with⟨x,hx,e⟩|⟨y,hy,e⟩
 ·rw[<-e];exact ha x hx
 ·rw[<-e];exact hb y hy
theorem Ro (ws:List ByteArray):∀(s:List Pl),(∀p∈s,Iu pls p.r)->∀p∈CP pls s ws,Iu pls p.r:=by
 induction ws with
 |nil=>intro s h;exact h
 |cons w ws ih=>intro s _;exact ih _ (fun p hp=>⟨w,p,(If Cz (pls w) s).subset hp,rfl⟩)
theorem Tk (h:FOk pls beg) (k:Int) (ws:List ByteArray):∀x∈DI pls beg k ws,Iu pls x.r:=by
 unfold DI;split
 ·intro x hx
  obtain⟨p,hp,e⟩:=(Gm (GV pls h.ris ws)).mem x hx;rw[<-e]
  cases ws with
  |nil=>cases hp
  |cons w ws=>exact Ro ws (pls w) (fun p hp=>⟨w,p,hp,rfl⟩) p hp
 ·split
  ·split
   ·rename_i s
    have key:∀(l:List ByteArray) (h0:List Ht),(∀x∈h0,Iu pls x.r)->∀x∈FO pls h0 l,Iu pls x.r:=by
     intro l
     induction l with
     |nil=>intro h0 hh;exact hh
     |cons w l ih=>
      intro h0 hh;rw[GB];refine ih _ (Qj hh (fun x hx=> ?_));obtain⟨p,hp,e⟩:=(Gm (h.ris w)).mem x hx;exact⟨w,p,hp,e⟩
    exact key _ [] (fun _ h=>by cases h)
   ·intro x hx;cases hx
  ·split
   ·split
    ·rename_i u v
     intro x hx;unfold Ed at hx;obtain⟨r,hr,rfl⟩:=List.mem_map.1 hx;obtain⟨p,hp,q,hq,e,_⟩:=((IB 3 (h.ris u) (h.ris v)).2 r).1 hr;exact⟨u,p,hp,e⟩
    ·intro x hx;cases hx
   ·intro x hx;cases hx
theorem Oj (h:FOk pls beg) (q:Qy):∀x∈A7 pls beg q,Iu pls x.r:=by
 induction q with
 |nil=>intro x hx;cases hx
 |node k ws a b ha hb=>
  unfold A7;split
  ·exact Qj ha hb
  ·exact Tk h k ws
theorem Kv (h:FOk pls beg) (q:Qy):∀x∈A7 pls beg q,1<=x.r/\x.r<=1073741824:=fun x hx=>by
 obtain⟨wd,p,hp,e⟩:=Oj h q x hx;have:=h.ok wd p hp;unfold OkP at this;omega
end
theorem Tg (s:ByteArray) (h:(BN s).2=0):QGd (BN s).1:=by
 cases hp:A0 s s.size 0 with
 |none=>rw[GD hp]at h;cases h
 |some L=>
  rw[GC hp]at h ⊢;exact V8 L h
theorem YM {l:List Ht} {M:Nat} (h:Hk M l) (r:Int):0<=cn l r/\cn l r<=M/\(cn l r≠0->∃x∈l,x.r=r):=by
 by_cases e:∃x∈l,x.r=r
 ·obtain⟨x,hx,rfl⟩:=e
  rw[Xq h.ris hx];have h1:=h.pos x hx;have h2:=h.le x hx;exact⟨by omega,h2,fun _=>⟨x,hx,rfl⟩⟩
 ·have hn:∀x∈l,x.r≠r:=fun x hx e'=>e ⟨x,hx,e'⟩
  rw[Vo hn];exact⟨Int.le_refl _,by omega,fun h=>absurd rfl h⟩
end
section
open Go.RowKit
def Xf (A:Nat) (w:World) (a:Option Addr) (xs:List ByteArray):Prop:=
 xs=[]\/∃b off,a=some ⟨b,off,none⟩/\b<A/\∀i (h:i<xs.length),w.cell? ⟨b,off+i,none⟩=some (.string xs[i])
def Av (A:Nat) (s:Rst) (w:World):Prop:=
 (∃a c,w.cell? ⟨A,0,none⟩=some (.slice a s.l.length c)/\Xf A w a s.l/\s.l.length<=c/\s.l.length<=1000)/\w.cell? ⟨A,1,none⟩=some (.int .i64 s.bad)/\w.frozen? ⟨A,0,none⟩=false/\w.frozen? ⟨A,1,none⟩=false/\A<w.heap.size/\∀x∈s.l,x.size<=1000
theorem Xf.keep {A:Nat} {w w':World} {a:Option Addr} {xs:List ByteArray} (h:Xf A w a xs) (hb:∀k,k<A->w'.heap[k]? =w.heap[k]?):Xf A w' a xs:=by
 rcases h with h|⟨b,off,e,hlt,hc⟩
 ·exact .inl h
 ·exact .inr ⟨b,off,e,hlt,fun i hi=>by rw[World.cell?_of_block (w:=w) (a:=⟨b,off+i,none⟩) (hb b hlt)];exact hc i hi⟩
theorem Av.below {A:Nat} {s:Rst} {w w':World} (h:Av A s w) (hb:Below w.heap.size w w'):Av A s w':=by
 obtain⟨⟨a,c,h1,h2,h3⟩,h4,h5,h6,h7,h8⟩:=h;have hs:=hb.size;refine⟨⟨a,c,by rw[hb.cell (p:=⟨A,_,none⟩) h7];exact h1,h2.keep (fun k hk=>hb.block k (by omega)),h3⟩,by rw[hb.cell (p:=⟨A,_,none⟩) h7];exact h4,?_,?_,by omega,h8⟩
 ·rw[World.frozen?_of_block (w:=w) (a:=⟨A,0,none⟩) (hb.block A h7)];exact h5
 ·rw[World.frozen?_of_block (w:=w) (a:=⟨A,1,none⟩) (hb.block A h7)];exact h6
theorem Lt {s:Rst} (h:s.bad≠0):s.peek=Ax:=by unfold Rst.peek;rw[if_neg h];rfl
set_option maxHeartbeats 1000000
theorem E5 (A:Nat) (s:Rst) (w:World) (h:Av A s w):Calls Tryz.prog 72 #[.pointer (some ⟨A,0,none⟩)] w fun e w'=>e= .returned (.string s.peek)/\w'=w:=by
 obtain⟨⟨a,c,h1,h2,h3,h3'⟩,h4,_,_,_,_⟩:=h
 cases hl:s.l with
 |nil=>
  rw[hl]at h1;simp only[List.length_nil]at h1;have HP:Hid (s.peek=Ax):=NF hl;clear hl;go_enter Tryz.func72,Tryz.ntmps72;go_wp2;go_ret;exact⟨by rw[HP.out];rfl,rfl⟩
 |cons x r=>
  rw[hl]at h1 h2 h3;rcases h2 with h2|⟨b,off,rfl,_,hc⟩
  ·cases h2
  have hx:=hc 0 (by simp);simp only[Nat.add_zero,List.getElem_cons_zero]at hx;clear hc;simp only[List.length_cons]at h1 h3;obtain⟨n,hn⟩:∃n,r.length=n:=⟨_,rfl⟩;rw[hn]at h1 h3;have d1:((n:Int)+1 == 0)=false:=by simp;omega
  by_cases hb:s.bad=0
  ·have HP:Hid (s.peek=x):=RJ hl hb
   rw[hb]at h4;clear hb hl;go_enter Tryz.func72,Tryz.ntmps72;go_wp2;go_ret;exact⟨by rw[HP.out];rfl,rfl⟩
  ·have HP:Hid (s.peek=Ax):=Lt hb
   have d2:(s.bad == 0)=false:=by simpa using hb
   clear hb hl;go_enter Tryz.func72,Tryz.ntmps72;go_wp2;go_ret;exact⟨by rw[HP.out];rfl,rfl⟩
theorem Cd (x:ByteArray) (A:Nat) (s:Rst) (w:World) (h:Av A s w) (hx:s.peek=x):Calls Tryz.prog 72 #[.pointer (some ⟨A,0,none⟩)] w fun e w'=>e= .returned (.string x)/\w'=w:=by
 rw[<-hx];exact E5 A s w h
theorem CN (A:Nat) (s:Rst) (n:Int) (w:World) (h:Av A s w):Calls Tryz.prog 14 #[.pointer (some ⟨A,0,none⟩),.int .i64 n] w fun e w'=>e= .returned (.tuple #[])/\Av A (s.fails n) w'/\w.grownBy w' (some A):=by
 have H:Hid (Av A s w):=h;obtain⟨_,h4,_,h6,_,_⟩:=h
 by_cases hb:s.bad=0
 ·have HS:Hid (s.fails n=⟨s.l,n⟩):=by show _=_;rw[Rst.fails,if_pos hb]
  rw[hb]at h4;clear hb;go_enter Tryz.func14,Tryz.ntmps14;go_wp2;go_end0;refine⟨rfl,?_,DF _ _ _ _⟩;rw[HS.out];obtain⟨⟨a,c,k1,k2,k3⟩,k4,k5,k6,k7,k8⟩:=H.out;refine⟨⟨a,c,?_,k2.keep (fun k hk=>Below.heap_setCell w ⟨A,1,none⟩ _ k (fun e=>by simp only at e;omega)),k3⟩,World.cell?_setCell_same _ _ _ k4,?_,?_,by simpa [World.setCell]using k7,k8⟩
  ·rw[World.cell?_setCell_other _ _ _ _ (fun e=>by cases e)];exact k1
  ·rw[World.frozen?_setCell];exact k5
  ·rw[World.frozen?_setCell];exact k6
 ·have HS:Hid (s.fails n=s):=by show _=_;rw[Rst.fails,if_neg hb]
  have d2:(s.bad == 0)=false:=by simpa using hb
  clear hb;go_enter Tryz.func14,Tryz.ntmps14;go_wp2;go_end0;exact⟨rfl,by rw[HS.out];exact H.out,Jc _ _⟩
theorem Cr (A:Nat) (s:Rst) (x:ByteArray) (w:World) (h:Av A s w) (hx:s.peek≠x):Calls Tryz.prog 40 #[.pointer (some ⟨A,0,none⟩),.string x] w fun e w'=>e= .returned (.bool false)/\w'=w:=by
 have H:Hid (Av A s w):=h;clear h
 have d1:(s.peek.toList == x.toList)=false:=by
  have:s.peek.toList≠x.toList:=fun e=>hx (Dy (by rw[<-ByteArray.toList_eq,<-ByteArray.toList_eq];exact e));simpa using this
 go_enter Tryz.func40,Tryz.ntmps40;go_wp2_with fail;refine(E5 A s w H.out).mono ?_;rintro _ _ ⟨rfl,rfl⟩;go_wp2;go_ret;exact⟨rfl,rfl⟩
theorem O9 {A:Nat} {s:Rst} {x:ByteArray} {r:List ByteArray} {w:World} {b off n c:Nat} (h:Av A s w) (hl:s.l=x::r) (hn:r.length=n) (hc:w.cell? ⟨A,0,none⟩=some (.slice (some ⟨b,off,none⟩) (n+1) c)) (a':Option Addr) (c':Nat) (ha:r=[]\/a'=some ⟨b,off+1,none⟩) (hc':n<=c'):
  Av A ⟨s.l.tail,s.bad⟩ (w.setCell ⟨A,0,none⟩ (.slice a' n c')):=by
 obtain⟨⟨a,c0,h1,h2,h3,h3'⟩,h4,h5,h6,h7,h8⟩:=h;rw[hl]at h2 h3' h8;rw[hl,List.tail_cons]
 obtain rfl:a=some ⟨b,off,none⟩:=by
  rw[h1]at hc;injection hc with hc;injection hc
 refine⟨⟨a',c',?_,?_,?_,?_⟩,?_,?_,?_,?_,fun y hy=>h8 y (by simp[hy])⟩
 ·show _=some (Value.slice a' r.length c')
  rw[hn];exact World.cell?_setCell_same _ _ _ h1
 ·rcases ha with ha|rfl
  ·exact .inl ha
  ·rcases h2 with h2|⟨b',off',e,hbA,hc⟩
   ·cases h2
   ·cases e
    refine .inr ⟨b,off+1,rfl,hbA,fun i hi=> ?_⟩;rw[World.cell?_of_block (w:=w) (a:=⟨b,off+1+i,none⟩) (Below.heap_setCell w ⟨A,0,none⟩ _ b (fun e=>by simp only at e;omega))];have hi':i<r.length:=hi;have:=hc (i+1) (by simp;omega);simp only[List.getElem_cons_succ]at this;rw[show off+1+i=off+(i+1) by omega];exact this
 ·show r.length<=c';omega
 ·show r.length<=1000
  simp at h3';omega
 ·rw[World.cell?_setCell_other _ _ _ _ (fun e=>by cases e)];exact h4
 ·rw[World.frozen?_setCell];exact h5
 ·rw[World.frozen?_setCell];exact h6
 ·simpa [World.setCell]using h7
theorem AK (A:Nat) (s:Rst) (x:ByteArray) (w:World) (h:Av A s w) (hx:s.peek=x) (hne:x≠Ax):Calls Tryz.prog 40 #[.pointer (some ⟨A,0,none⟩),.string x] w fun e w'=>e= .returned (.bool true)/\Av A ⟨s.l.tail,s.bad⟩ w'/\w.grownBy w' (some A):=by
 have H:Hid (Av A s w):=h;obtain⟨hb,r,hl⟩:=CL (s:=s) (by rw[hx];exact hne);obtain⟨⟨a,c,h1,h2,h3,h3'⟩,h4,h5,h6,h7,h8⟩:=h;have HX:Hid (s.peek=x):=hx;rw[hx]at hl;clear hx;rw[hl]at h1 h2 h3;rcases h2 with h2|⟨b,off,rfl,hbA,hc⟩
 ·cases h2
 have HL:Hid (s.l=x::r):=hl;simp only[List.length_cons]at h1 h3;obtain⟨n,hn⟩:∃n,r.length=n:=⟨_,rfl⟩;rw[hn]at h1 h3;have HH:Hid (w.cell? ⟨A,0,none⟩=some (.slice (some ⟨b,off,none⟩) (n+1) c)/\r.length=n):=⟨h1,hn⟩;clear hc hl h8 hb hn
 by_cases hc1:c=1
 ·have e0:n=0:=by omega
  subst hc1;subst e0;go_enter Tryz.func40,Tryz.ntmps40;go_wp2_with fail;refine(Cd x A s w H.out HX.out).mono ?_;rintro _ _ ⟨rfl,rfl⟩;go_wp2;go_ret;exact⟨rfl,O9 H.out HL.out HH.out.2 HH.out.1 _ _ (.inl (List.length_eq_zero_iff.1 HH.out.2)) (Nat.le_refl _),DF _ _ _ _⟩
 ·have hc2:(1:Nat)<c:=by omega
  go_enter Tryz.func40,Tryz.ntmps40;go_wp2_with fail;refine(Cd x A s w H.out HX.out).mono ?_;rintro _ _ ⟨rfl,rfl⟩;go_wp2;go_ret;exact⟨rfl,O9 H.out HL.out HH.out.2 HH.out.1 _ _ (.inr rfl) (by omega),DF _ _ _ _⟩
def QIs (A:Nat) (w:World):Option Addr->Qy->Prop
 |p,.nil=>p=none
 |p,.node k ws a b=>∃B vw pa pb,p=some ⟨B,0,none⟩/\(A<B/\B<w.heap.size)/\(w.cell? ⟨B,0,none⟩=some (.int .i64 k)/\w.cell? ⟨B,1,none⟩=some vw/\w.cell? ⟨B,2,none⟩=some (.pointer pa)/\w.cell? ⟨B,3,none⟩=some (.pointer pb))/\GI A w vw ws/\QIs A w pa a/\QIs A w pb b
theorem QIs.grown {A:Nat} {w w':World} (hg:w.grownBy w' (some A)) (q:Qy):∀ {p:Option Addr},QIs A w p q->QIs A w' p q:=by
 induction q with
 |nil=>intro p h;exact h
 |node k ws a b ha hb=>
  intro p h;obtain⟨B,vw,pa,pb,e,⟨h1,h2⟩,⟨c0,c1,c2,c3⟩,hr,qa,qb⟩:=h;have key:∀o,w'.cell? ⟨B,o,none⟩=w.cell? ⟨B,o,none⟩:=fun o=>World.cell?_of_block (w:=w) (a:=⟨B,o,none⟩) (hg.block B h2 (fun e=>by cases e;omega));exact⟨B,vw,pa,pb,e,⟨h1,Nat.lt_of_lt_of_le h2 hg.size⟩,⟨by rw[key];exact c0,by rw[key];exact c1,by rw[key];exact c2,by rw[key];exact c3⟩,hr.grown hg,ha qa,hb qb⟩
theorem QIs.box {A:Nat} {w:World} (hA:A<w.heap.size) (k:Int) (vw:Value) (pa pb:Option Addr) (ws:List ByteArray) (a b:Qy) (hw:GI A w vw ws) (ha:QIs A w pa a) (hb:QIs A w pb b):
  QIs A (w.alloc (.cells #[.int .i64 k,vw,.pointer pa,.pointer pb] 90)) (some ⟨w.heap.size,0,none⟩) (.node k ws a b):=by
 have hg:w.grownBy (w.alloc (.cells #[.int .i64 k,vw,.pointer pa,.pointer pb] 90)) (some A):=Ac ((Below.refl _ _).alloc (Nat.le_refl _) _) _;exact⟨w.heap.size,vw,pa,pb,rfl,⟨hA,by simp⟩,⟨by simp,by simp,by simp,by simp⟩,hw.grown hg,QIs.grown hg a ha,QIs.grown hg b hb⟩
theorem Fk (A:Nat) (s:Rst) (x:ByteArray) (w:World) (h:Av A s w) (hx:x.size<=1000):
  Calls Tryz.prog 108 #[.pointer (some ⟨A,0,none⟩),.string x] w fun e w'=>e= .returned (.string (s.plain x).1)/\Av A (s.plain x).2 w'/\w.grownBy w' (some A):=by
 have H:Hid (Av A s w):=h;clear h;obtain⟨ws,hws⟩:∃ws,Ad x.data.toList=ws:=⟨_,rfl⟩;have HW:Hid (Ad x.data.toList=ws):=hws;have hwl:ws.length<=1001:=by rw[<-hws];have:=CK x.data.toList;rw[AF]at this;omega
 clear hws
 by_cases h1:ws.length=1
 ·obtain⟨y,rfl⟩:=List.length_eq_one_iff.1 h1
  have HP:Hid (s.plain x=(y,s)):=Eo HW.out;clear h1;go_enter Tryz.func108,Tryz.ntmps108;go_wp2_with fail;refine(Fh x w (by omega)).mono ?_;rintro _ w1 ⟨v1,rfl,ho1,hb1⟩;rw[HW.out]at ho1;have HA1:Hid (Av A s w1):=H.out.below hb1;have HB1:Hid (Below w.heap.size w w1):=hb1;rcases ho1.2 with⟨_,h0⟩|⟨g,cap,cur,rfl,_⟩
  ·cases h0
  have hc:=ho1.cells (g:=g) rfl 0 (.string y) (by simp[sc]);rw[Go.WideShapes.add_plain]at hc;simp only[Nat.add_zero]at hc;clear ho1 hb1;go_wp2;go_ret;rw[HP.out];exact⟨rfl,HA1.out,Ac HB1.out _⟩
 ·have HP:Hid (s.plain x=(⟨#[]⟩,s.fails 3)):=FV HW.out h1
  go_enter Tryz.func108,Tryz.ntmps108;go_wp2_with fail;refine(Fh x w (by omega)).mono ?_;rintro _ w1 ⟨v1,rfl,ho1,hb1⟩;rw[HW.out]at ho1;have HA1:Hid (Av A s w1):=H.out.below hb1;have HB1:Hid (Below w.heap.size w w1):=hb1
  obtain⟨a,cap,rfl⟩:∃a cap,v1= .slice a ws.length cap:=by
   rcases ho1.2 with⟨rfl,h0⟩|⟨g,cap,cur,rfl,_⟩
   ·exact⟨none,0,by rw[h0]⟩
   ·exact⟨_,cap,rfl⟩
  clear ho1 hb1;obtain⟨n,hn⟩:∃n,ws.length=n:=⟨_,rfl⟩;rw[hn]at h1 hwl ⊢;have d1:((n:Int) == 1)=false:=by simp;omega
  go_wp2_with fail;refine(CN A s 3 w1 HA1.out).mono ?_;rintro _ w2 ⟨rfl,ha2,hg2⟩;have HA2:Hid (Av A (s.fails 3) w2):=ha2;have HG2:Hid (w.grownBy w2 (some A)):=(Ac HB1.out _).trans hg2;clear ha2 hg2;go_wp2;go_ret;rw[HP.out];exact⟨rfl,HA2.out,HG2.out⟩
end
section
open Go.RowKit Go.Maps
def DIs (w:World):Option Addr->Qy->Prop
 |p,.nil=>p=none
 |p,.node k ws a b=>∃B x c pa pb,p=some ⟨B,0,none⟩/\(w.cell? ⟨B,0,none⟩=some (.int .i64 k)/\w.cell? ⟨B,1,none⟩=some (.slice x ws.length c)/\w.cell? ⟨B,2,none⟩=some (.pointer pa)/\w.cell? ⟨B,3,none⟩=some (.pointer pb))/\(ws.length<=1000000/\ws.length<=c)/\(ws=[]\/∃b off,x=some ⟨b,off,none⟩/\b<w.heap.size/\∀i (h:i<ws.length),w.cell? ⟨b,off+i,none⟩=some (.string ws[i]))/\DIs w pa a/\DIs w pb b
theorem DIs.of {A:Nat} {w:World} (q:Qy):∀ {p:Option Addr},QIs A w p q->DIs w p q:=by
 induction q with
 |nil=>intro p h;exact h
 |node k ws a b ha hb=>
  intro p h;obtain⟨B,vw,pa,pb,e,_,⟨c0,c1,c2,c3⟩,⟨x,c,rfl,hl,hr⟩,qa,qb⟩:=h;refine⟨B,x,c,pa,pb,e,⟨c0,c1,c2,c3⟩,hl,?_,ha qa,hb qb⟩;rcases hr with hr|⟨b',off,e',_,h2,h3⟩
  ·exact .inl hr
  ·exact .inr ⟨b',off,e',h2,h3⟩
theorem DIs.below {w w':World} (hb:Below w.heap.size w w') (q:Qy):∀ {p:Option Addr},DIs w p q->DIs w' p q:=by
 induction q with
 |nil=>intro p h;exact h
 |node k ws a b ha hb'=>
  intro p h;obtain⟨B,x,c,pa,pb,e,⟨c0,c1,c2,c3⟩,hl,hr,qa,qb⟩:=h;have hB:=World.block_lt_of_cell? w _ c0;have key:∀o,w'.cell? ⟨B,o,none⟩=w.cell? ⟨B,o,none⟩:=fun o=>hb.cell (p:=⟨B,o,none⟩) hB;refine⟨B,x,c,pa,pb,e,⟨by rw[key];exact c0,by rw[key];exact c1,by rw[key];exact c2,by rw[key];exact c3⟩,hl,?_,ha qa,hb' qb⟩;rcases hr with hr|⟨b',off,e',h2,h3⟩
  ·exact .inl hr
  ·exact .inr ⟨b',off,e',Nat.lt_of_lt_of_le h2 hb.size,fun i hi=>(hb.cell (p:=⟨b',off+i,none⟩) h2).trans (h3 i hi)⟩
section
variable {B0 b:Nat} {nm:ByteArray} {D:List Nd} {pls:ByteArray->List Pl} {beg:ByteArray->List ByteArray} {w:World}
theorem Dr.fok (h:Dr B0 b nm D pls beg w):FOk pls beg:=⟨fun wd=>(h.pl wd).right,h.le,fun s=>Nat.le_trans (h.bg s).len h.len⟩
theorem QR (h:FOk pls beg) (q:Qy) (hl:lvs q<=400):CB (cn (A7 pls beg q)):=fun r=>by
 obtain⟨h1,h2,h3⟩:=YM (FF h q) r;refine⟨h1,by omega,fun h0=> ?_⟩;obtain⟨x,hx,rfl⟩:=h3 h0;exact Kv h q x hx
theorem WF (h:FOk pls beg) {k:Int} (hk:EA k=true) (ws:List ByteArray) (x y:Qy):gF k (cn (A7 pls beg x)) (cn (A7 pls beg y))=cn (A7 pls beg (.node k ws x y)):=funext fun r=>by
 have e:A7 pls beg (.node k ws x y)=Ak k (A7 pls beg x) (A7 pls beg y):=by rw[A7,if_pos hk]
 have h1:=FF h x;have h2:=FF h y;rw[e,Vn k _ _ r h1.ris h2.ris h1.pos h2.pos];rfl
theorem Cq.as {c d:Int->Int} {n m:Nat} {e:Ending} {w':World} (h:Cq w c n e w') (hn:n<=m) (hc:c=d):Cq w d m e w':=by
 subst hc;obtain⟨b,k,h1,h2,h3,h4⟩:=h;exact⟨b,k,h1,h2,Nat.le_trans h3 hn,h4⟩
theorem Ny (hS:AS) (hS2:CI) (q:Qy):∀ {w:World} {p:Option Addr},Dr B0 b nm D pls beg w->DIs w p q->QGd q->lvs q<=400->
  Calls Tryz.prog 11 #[.pointer (some ⟨b,0,none⟩),.string nm,.pointer p] w fun e w'=>Cq w (cn (A7 pls beg q)) (10000 * lvs q) e w':=by
 induction q with
 |nil=>intro w p _ _ hg;exact hg.elim
 |node k ws x y hx hy=>
  intro w p hD hI hg hl;obtain⟨B,vx,c,pa,pb,rfl,⟨c0,c1,c2,c3⟩,hlen,hr,qa,qb⟩:=hI
  have hW:ws≠[]->∃bw off,vx=some ⟨bw,off,none⟩/\La w B bw off c k ws:=fun hne=>by
   rcases hr with hr|⟨b',off,e',h2,h3⟩
   ·exact absurd hr hne
   ·subst e'
    exact⟨b',off,rfl,⟨c0,c1,hlen.2,hlen.1,h2,h3⟩⟩
  rcases hg with⟨rfl,hne⟩|⟨rfl,s,rfl⟩|⟨rfl,u,v,rfl⟩|⟨hk,ga,gb⟩
  ·obtain⟨bw,off,_,hw⟩:=hW hne
   cases ws with
   |nil=>exact absurd rfl hne
   |cons z ws=>exact(YJ hS hD hw).mono fun e w' h=>h.as (by rw[lvs,if_neg (by decide),if_neg (by decide)];omega) rfl
  ·obtain⟨bw,off,_,hw⟩:=hW (by simp)
   exact(YI hS hD hw).mono fun e w' h=>h.as (by rw[lvs,if_neg (by decide),if_neg (by decide)];omega) rfl
  ·obtain⟨bw,off,_,hw⟩:=hW (by simp)
   exact(YH hS hS2 hD hw).mono fun e w' h=>h.as (by rw[lvs,if_neg (by decide),if_neg (by decide)];omega) rfl
  ·have hlv:lvs (.node k ws x y)=lvs x+lvs y:=by rw[lvs,if_pos hk]
   rw[hlv]at hl ⊢;have hca:=QR hD.fok x (by omega);have hcb:=QR hD.fok y (by omega)
   have hE:∀ {wx wy:World},(wx.cell? ⟨B,0,none⟩=some (.int .i64 k)/\wx.cell? ⟨B,2,none⟩=some (.pointer pa)/\wx.cell? ⟨B,3,none⟩=some (.pointer pb))/\DIs wx pa x/\DIs wx pb y->Below wx.heap.size wx wy->(wy.cell? ⟨B,0,none⟩=some (.int .i64 k)/\wy.cell? ⟨B,2,none⟩=some (.pointer pa)/\wy.cell? ⟨B,3,none⟩=some (.pointer pb))/\DIs wy pa x/\DIs wy pb y:=by
    rintro wx wy ⟨⟨h0,h2,h3⟩,h4,h5⟩ hb;have hB:=World.block_lt_of_cell? wx _ h0;exact⟨⟨(hb.cell (p:=⟨B,0,none⟩) hB).trans h0,(hb.cell (p:=⟨B,2,none⟩) hB).trans h2,(hb.cell (p:=⟨B,3,none⟩) hB).trans h3⟩,h4.below hb,h5.below hb⟩
   have hk3:k=4\/k=5\/k=6:=by
    unfold EA at hk;simp only[Bool.or_eq_true,decide_eq_true_eq]at hk;omega
   have hG:=WF hD.fok hk ws x y;have hA:∀wx,Dr B0 b nm D pls beg wx->(wx.cell? ⟨B,0,none⟩=some (.int .i64 k)/\wx.cell? ⟨B,2,none⟩=some (.pointer pa)/\wx.cell? ⟨B,3,none⟩=some (.pointer pb))/\DIs wx pa x/\DIs wx pb y->Calls Tryz.prog 11 #[.pointer (some ⟨b,0,none⟩),.string nm,.pointer pa] wx fun e w'=>Cq wx (cn (A7 pls beg x)) (10000 * lvs x) e w':=fun wx h1 h2=>hx h1 h2.2.1 ga (by omega);have hB:∀wx,Dr B0 b nm D pls beg wx->(wx.cell? ⟨B,0,none⟩=some (.int .i64 k)/\wx.cell? ⟨B,2,none⟩=some (.pointer pa)/\wx.cell? ⟨B,3,none⟩=some (.pointer pb))/\DIs wx pa x/\DIs wx pb y->Calls Tryz.prog 11 #[.pointer (some ⟨b,0,none⟩),.string nm,.pointer pb] wx fun e w'=>Cq wx (cn (A7 pls beg y)) (10000 * lvs y) e w':=fun wx h1 h2=>hy h1 h2.2.2 gb (by omega);rw[<-hG];have hf:10000 * lvs x+10000 * lvs y<=10000 * (lvs x+lvs y):=by omega
   rcases hk3 with rfl|rfl|rfl
   ·exact(YG hD ⟨⟨c0,c2,c3⟩,qa,qb⟩ hE (fun h=>h.1) (by omega) hca hcb hA hB).mono fun e w' h=>h.as hf rfl
   ·exact(YF hD ⟨⟨c0,c2,c3⟩,qa,qb⟩ hE (fun h=>h.1) (by omega) hca hcb hA hB).mono fun e w' h=>h.as hf rfl
   ·exact(YE hD ⟨⟨c0,c2,c3⟩,qa,qb⟩ hE (fun h=>h.1) (by omega) hca hcb hA hB).mono fun e w' h=>h.as hf rfl
end
end
section
open Go.RowKit
set_option maxHeartbeats 1000000
theorem Rn (k:Int) (f s:Bool) (w:World):Calls Tryz.prog 102 #[.int .i64 k,.bool f,.bool s] w fun e w'=>e= .returned (.bool (A8 k f s))/\w'=w:=by
 by_cases h4:k=4
 ·subst h4
  have e:A8 4 f s=(f && s):=rfl;rw[e]
  cases f
  ·go_enter Tryz.func102,Tryz.ntmps102
   go_wp2;go_ret;exact⟨rfl,rfl⟩
  ·go_enter Tryz.func102,Tryz.ntmps102
   go_wp2;go_ret;exact⟨by simp,rfl⟩
 ·have j4:(k == 4)=false:=by simpa using h4
  by_cases h6:k=6
  ·subst h6
   have e:A8 6 f s= !s:=rfl;rw[e];go_enter Tryz.func102,Tryz.ntmps102;go_wp2;go_ret;exact⟨rfl,rfl⟩
  ·have j6:(k == 6)=false:=by simpa using h6
   have e:A8 k f s=true:=by unfold A8;rw[if_neg h4,if_neg h6]
   rw[e];clear h4 h6 e;go_enter Tryz.func102,Tryz.ntmps102;go_wp2;go_ret;exact⟨rfl,rfl⟩
theorem FS (k:Int) (f s b:Bool) (h:A8 k f s=b) (w:World):Calls Tryz.prog 102 #[.int .i64 k,.bool f,.bool s] w fun e w'=>e= .returned (.bool b)/\w'=w:=by
 rw[<-h];exact Rn k f s w
end
end Go.Proofs.YtgfldnaahojnlaaGreatDoor
