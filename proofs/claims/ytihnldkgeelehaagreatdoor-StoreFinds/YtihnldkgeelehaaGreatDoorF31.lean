/- StoreFinds: part 31. -/
import Derived.Test.YtihnldkgeelehaaGreatDoorF29
import Derived.WalkKit
import Derived.WalkSpells
import Derived.WalkLawsBesides
import Derived.BigQuiet
import Derived.Deep.RegionHeld3
import Derived.Deep.DeepCutAuto
import Derived.Laws.AppendOwnNone
import Derived.Laws.MakeOwn
import Derived.Laws.IdiomStrings
import Derived.Deep.AppendLies
set_option maxRecDepth 100000
set_option maxHeartbeats 4000000
namespace Go.Proofs.YtihnldkgeelehaaGreatDoor
section
open Go.RowKit
theorem Ev {a b:Bool} (h:a=b):Ending.returned (.bool a)= .returned (.bool b):=by rw[h]
theorem Oc:(Tryz.prog.info? 118).map (fun i=>(i.zero,i.size,i.bytes))=some (some (.agg #[.int .i64 0,.int .i64 0]),2,16):=by kernel_rfl
theorem infoByte:(Tryz.prog.info? 5).map (fun i=>(i.zero,i.size,i.bytes))=some (some (.int .u8 0),1,1):=by kernel_rfl
theorem CC {P:Program} {t:TypeId} {z:Value} {n b:Nat} (h:(P.info? t).map (fun i=>(i.zero,i.size,i.bytes))=some (some z,n,b)):∃i,P.info? t=some i/\i.zero=some z/\i.size=n/\i.bytes=b:=by
 cases hi:P.info? t with
 |none=>simp[hi]at h
 |some i=>simp[hi]at h;exact⟨i,rfl,h.1,h.2.1,h.2.2⟩
structure Pl where
 r:Int
 a:Int
deriving DecidableEq
def plc (l:List Pl):List Value:=l.flatMap fun p=>[.int .i64 p.r,.int .i64 p.a]
theorem Jg (p:Pl) (l:List Pl):plc (p::l)= .int .i64 p.r:: .int .i64 p.a::plc l:=rfl
theorem FQ (a b:List Pl):plc (a++b)=plc a++plc b:=by simp[plc]
theorem NH (l:List Pl):(plc l).length=l.length * 2:=by
 induction l with
 |nil=>rfl
 |cons p l ih=>simp only[Jg,List.length_cons,ih];omega
theorem Te (xs:List Pl) (i:Nat) (h:i<xs.length):(plc xs)[i * 2]? =some (.int .i64 xs[i].r)/\(plc xs)[i * 2+1]? =some (.int .i64 xs[i].a):=by
 induction xs generalizing i with
 |nil=>simp at h
 |cons x xs ih=>
  cases i with
  |zero=>simp[Jg]
  |succ i=>
   have:=ih i (by simpa using h);rw[Jg,show(i+1) * 2=i * 2+2 by omega];simpa using this
theorem OJ (xs:List Pl):∀u∈plc xs,u.oneCell'=true:=by
 intro u hu;simp[plc]at hu;obtain⟨x,_,h⟩:=hu;rcases h with rfl|rfl<;>rfl
def LY (w:World) (a:Option Addr) (len:Nat) (xs:List Pl):Prop:=
 len=xs.length/\xs.length<=1000000/\(xs=[]\/∃b off,a=some ⟨b,off,none⟩/\b<w.heap.size/\∀i (h:i<xs.length),w.cell? ⟨b,off+i * 2,none⟩=some (.int .i64 xs[i].r)/\w.cell? ⟨b,off+i * 2+1,none⟩=some (.int .i64 xs[i].a))
theorem LY.below {w w':World} {a:Option Addr} {len:Nat} {xs:List Pl} (h:LY w a len xs) (hb:Below w.heap.size w w'):LY w' a len xs:=by
 obtain⟨h1,h2,h3⟩:=h;refine⟨h1,h2,?_⟩;rcases h3 with h3|⟨b,off,e,hlt,hc⟩
 ·exact .inl h3
 ·exact .inr ⟨b,off,e,Nat.lt_of_lt_of_le hlt hb.size,fun i hi=>by rw[hb.cell (p:=⟨b,_,none⟩) hlt,hb.cell (p:=⟨b,_,none⟩) hlt];exact hc i hi⟩
theorem L7 {w:World} {B:Nat} {t:TypeId} {z:Nat} {v:Value} {n n':Nat} {xs xs':List Value} (h:w.ownsRow B t z v n xs) (hn:n=n') (hx:xs=xs'):w.ownsRow B t z v n' xs':=by rw[<-hn,<-hx];exact h
theorem FT {w w':World} {B:Nat} {t:TypeId} {z:Nat} {v:Value} {n:Nat} {xs:List Value} (h:w.ownsRow B t z v n xs) (hb:Below w.heap.size w w'):w'.ownsRow B t z v n xs:=by
 refine⟨h.1,?_⟩;rcases h.2 with h2|⟨g,cap,cur,h1,h2,h3,h4⟩
 ·exact .inl h2
 ·exact .inr ⟨g,cap,cur,h1,h2,by rw[hb.block g (Array.getElem?_eq_some_iff.1 h3).1];exact h3,h4⟩
theorem Mv {w:World} {B:Nat} {v:Value} {xs:List Pl} (h:w.ownsRow B 118 2 v xs.length (plc xs)) (hl:xs.length<=1000000):∃a cap,v= .slice a xs.length cap/\LY w a xs.length xs/\(a=none->cap=0):=by
 rcases h.2 with⟨rfl,h0⟩|⟨g,cap,cur,rfl,_,hg,_⟩
 ·have:xs=[]:=List.length_eq_zero_iff.1 h0
  subst this;exact⟨none,0,rfl,⟨rfl,hl,.inl rfl⟩,fun _=>rfl⟩
 ·refine⟨some ⟨g,0,none⟩,cap,rfl,⟨rfl,hl,.inr ⟨g,0,rfl,(Array.getElem?_eq_some_iff.1 hg).1,fun i hi=> ?_⟩⟩,fun e=>by simp at e⟩
  obtain⟨c0,c1⟩:=Te xs i hi;have k0:=h.cells (g:=g) rfl _ _ c0;have k1:=h.cells (g:=g) rfl _ _ c1;rw[Go.WideShapes.add_plain]at k0 k1;exact⟨k0,k1⟩
def QD (a b:Int):Int:=if a<b then -1 else if b<a then 1 else 0
def Nl (a b:Pl):Int:=if a.r=b.r then QD a.a b.a else QD a.r b.r
theorem LA (x:Int) (w:World):Calls Tryz.prog 136 #[.int .i64 x] w fun e w'=>e= .returned (.bool false)/\w'=w:=by
 go_enter Tryz.func136,Tryz.ntmps136;go_wp2;go_ret;exact⟨by simp,rfl⟩
set_option maxHeartbeats 400000
theorem Pa (x y:Int) (w:World):Calls Tryz.prog 88 #[.int .i64 x,.int .i64 y] w fun e w'=>e= .returned (.int .i64 (QD x y))/\w'=w:=by
 unfold QD
 by_cases h1:x<y
 ·go_enter Tryz.func88,Tryz.ntmps88
  go_wp2_with (go_at_call 136;refine(LA _ _).mono ?_;rintro e w' ⟨rfl,rfl⟩)
  go_ret;exact⟨by simp,rfl⟩
 ·by_cases h2:y<x
  ·go_enter Tryz.func88,Tryz.ntmps88
   go_wp2_with (go_at_call 136;refine(LA _ _).mono ?_;rintro e w' ⟨rfl,rfl⟩)
   go_ret;exact⟨by simp,rfl⟩
  ·go_enter Tryz.func88,Tryz.ntmps88
   go_wp2_with (go_at_call 136;refine(LA _ _).mono ?_;rintro e w' ⟨rfl,rfl⟩)
   go_ret;exact⟨by simp,rfl⟩
theorem Ng (p q:Pl) (w:World):Calls Tryz.prog 226 #[.agg #[.int .i64 p.r,.int .i64 p.a],.agg #[.int .i64 q.r,.int .i64 q.a]] w fun e w'=>e= .returned (.int .i64 (Nl p q))/\Below w.heap.size w w':=by
 unfold Nl;obtain⟨r,a⟩:=p;obtain⟨r',a'⟩:=q
 by_cases h:r=r'
 ·subst h
  go_enter Tryz.func226,Tryz.ntmps226
  go_wp2_with (go_at_call 88;refine(Pa _ _ _).mono ?_;rintro e w' ⟨rfl,rfl⟩)
  go_ret;exact⟨by simp,((Below.refl _ _).alloc (Nat.le_refl _) _).alloc (by simp) _⟩
 ·go_enter Tryz.func226,Tryz.ntmps226
  go_wp2_with (go_at_call 88;refine(Pa _ _ _).mono ?_;rintro e w' ⟨rfl,rfl⟩)
  go_ret;exact⟨by simp,((Below.refl _ _).alloc (Nat.le_refl _) _).alloc (by simp) _⟩
def okB (p:Pl):Bool:=decide (1<=p.r) && decide (p.r<=1073741824) && decide (0<=p.a) && decide (p.a<1073741824)
def CS (p q:Pl):Bool:=okB q && decide (Nl p q<0)
theorem Ox (p q:Pl) (c:Int) (hc:Nl p q=c) (w:World):Calls Tryz.prog 226 #[.agg #[.int .i64 p.r,.int .i64 p.a],.agg #[.int .i64 q.r,.int .i64 q.a]] w fun e w'=>e= .returned (.int .i64 c)/\Below w.heap.size w w':=by
 rw[<-hc];exact Ng p q w
set_option maxHeartbeats 1000000
theorem MY (p q:Pl) (w:World):Calls Tryz.prog 189 #[.agg #[.int .i64 p.r,.int .i64 p.a],.agg #[.int .i64 q.r,.int .i64 q.a]] w fun e w'=>e= .returned (.bool (CS p q))/\Below w.heap.size w w':=by
 obtain⟨c,hc⟩:∃c,Nl p q=c:=⟨_,rfl⟩;have HC:Hid (Nl p q=c):=hc;obtain⟨b1,e1⟩:∃b,decide ((1:Int)<=q.r)=b:=⟨_,rfl⟩;obtain⟨b2,e2⟩:∃b,decide (q.r<=1073741824)=b:=⟨_,rfl⟩;obtain⟨b3,e3⟩:∃b,decide ((0:Int)<=q.a)=b:=⟨_,rfl⟩;obtain⟨b4,e4⟩:∃b,decide (q.a<1073741824)=b:=⟨_,rfl⟩
 have HF:Hid (CS p q=(b1 && b2 && b3 && b4 && decide (c<0))):=by
  show _=_;rw[CS,okB,hc,e1,e2,e3,e4]
 clear hc
 cases b1
 ·go_enter Tryz.func189,Tryz.ntmps189
  go_wp2;go_ret;exact⟨Ev (by rw[HF.out];simp),((Below.refl _ _).alloc (Nat.le_refl _) _).alloc (by simp) _⟩
 ·cases b2
  ·go_enter Tryz.func189,Tryz.ntmps189
   go_wp2;go_ret;exact⟨Ev (by rw[HF.out];simp),((Below.refl _ _).alloc (Nat.le_refl _) _).alloc (by simp) _⟩
  ·cases b3
   ·go_enter Tryz.func189,Tryz.ntmps189
    go_wp2;go_ret;exact⟨Ev (by rw[HF.out];simp),((Below.refl _ _).alloc (Nat.le_refl _) _).alloc (by simp) _⟩
   ·cases b4
    ·go_enter Tryz.func189,Tryz.ntmps189
     go_wp2;go_ret;exact⟨Ev (by rw[HF.out];simp),((Below.refl _ _).alloc (Nat.le_refl _) _).alloc (by simp) _⟩
    ·go_enter Tryz.func189,Tryz.ntmps189
     go_wp2_with fail;refine(Ox p q c HC.out _).mono ?_;rintro _ w1 ⟨rfl,hb1⟩;go_wp2;go_ret;exact⟨Ev (by rw[HF.out];simp),(((Below.refl _ _).alloc (Nat.le_refl _) _).alloc (by simp) _).trans (hb1.mono (by simp;omega))⟩
def As:Pl->List Pl->Bool
 |_,[]=>true
 |p,q::l=>CS p q && As q l
def DG (l:List Pl):Bool:=As ⟨0,0⟩ l
theorem NE (p:Pl) (xs:List Pl) (k:Nat) (hk:k<xs.length) (R:Bool) (h:As p (xs.drop k)=R):(CS p xs[k]=false->R=false)/\(CS p xs[k]=true->As xs[k] (xs.drop (k+1))=R):=by
 rw[List.drop_eq_getElem_cons hk,As]at h;constructor
 ·intro e;rw[e]at h;simpa using h.symm
 ·intro e;rw[e]at h;simpa using h
def AC (B:Nat) (p:Pl) (w:World):Prop:=w.cell? ⟨B,0,none⟩=some (.int .i64 p.r)/\w.cell? ⟨B,1,none⟩=some (.int .i64 p.a)/\w.frozen? ⟨B,0,none⟩=false/\w.frozen? ⟨B,1,none⟩=false/\B<w.heap.size
theorem AC.below {B:Nat} {p:Pl} {w w':World} (h:AC B p w) (hb:Below w.heap.size w w'):AC B p w':=by
 obtain⟨h1,h2,h3,h4,h5⟩:=h;have e:w'.heap[B]? =w.heap[B]? :=hb.block B h5;refine⟨by rw[hb.cell (p:=⟨B,0,none⟩) h5];exact h1,by rw[hb.cell (p:=⟨B,1,none⟩) h5];exact h2,?_,?_,Nat.lt_of_lt_of_le h5 hb.size⟩
 ·rw[<-h3];simp only[World.frozen?,e]
 ·rw[<-h4];simp only[World.frozen?,e]
theorem AC.new (w:World):AC w.heap.size ⟨0,0⟩ (w.alloc (.cells #[.int .i64 0,.int .i64 0] 118)):=by
 have hn:=heap_alloc_new w (.cells #[.int .i64 0,.int .i64 0] 118);refine⟨by simp,by simp,?_,?_,by simp⟩
 ·simp only[World.frozen?,hn];simp
 ·simp only[World.frozen?,hn];simp
theorem AC.set {B:Nat} {p:Pl} {w:World} (h:AC B p w) (q:Pl):AC B q ((w.setCell ⟨B,0,none⟩ (.int .i64 q.r)).setCell ⟨B,1,none⟩ (.int .i64 q.a)):=by
 obtain⟨h1,h2,h3,h4,h5⟩:=h;have o:(w.setCell ⟨B,0,none⟩ (.int .i64 q.r)).cell? ⟨B,1,none⟩=some (.int .i64 p.a):=by rw[World.cell?_setCell_other _ _ _ _ (fun e=>by cases e)];exact h2
 refine⟨?_,World.cell?_setCell_same _ _ _ o,?_,?_,?_⟩
 ·rw[World.cell?_setCell_other _ _ _ _ (fun e=>by cases e)];exact World.cell?_setCell_same _ _ _ h1
 ·rw[World.frozen?_setCell,World.frozen?_setCell];exact h3
 ·rw[World.frozen?_setCell,World.frozen?_setCell];exact h4
 ·simpa [World.setCell]using h5
theorem FX (p q:Pl) (b:Bool) (hb:CS p q=b) (w:World):Calls Tryz.prog 189 #[.agg #[.int .i64 p.r,.int .i64 p.a],.agg #[.int .i64 q.r,.int .i64 q.a]] w fun e w'=>e= .returned (.bool b)/\Below w.heap.size w w':=by
 rw[<-hb];exact MY p q w
theorem PA (a:Option Addr) (len cap:Nat) (xs:List Pl) (w:World) (hr:LY w a len xs):
  Calls Tryz.prog 216 #[.slice a len cap] w fun e w'=>e= .returned (.bool (DG xs))/\Below w.heap.size w w':=by
 obtain⟨rfl,hm,hx⟩:=hr;have HR:Hid (As ⟨0,0⟩ (xs.drop 0)=DG xs):=rfl;generalize DG xs=R at *;go_enter Tryz.func216,Tryz.ntmps216;go_wp2;go_loopw [8] (fun i wr=>∃(k:Nat) (p:Pl),k<=xs.length/\i= .int .i64 k/\Hid (AC w.heap.size p wr/\Below w.heap.size w wr/\As p (xs.drop k)=R)) (fun i _=>xs.length-(intOf i).toNat)
 case atStart=>exact⟨0,⟨0,0⟩,Nat.zero_le _,rfl,AC.new w,(Below.refl _ _).alloc (Nat.le_refl _) _,HR.out⟩
 case round=>
  clear HR;obtain⟨k,p,hk,rfl,hz⟩:=hrel
  by_cases hlt:k<xs.length
  ·rcases hx with hx|⟨b,off,rfl,hb,hrow⟩
   ·simp[hx]at hlt
   obtain⟨g1,g2⟩:=hrow k hlt;clear hrow;rw[<-hz.out.2.1.cell (p:=⟨b,_,none⟩) hb]at g1 g2;obtain⟨hR1,hR2⟩:=NE p xs k hlt R hz.out.2.2;have i1:(k:Int)<(xs.length:Int):=by omega
   generalize xs[k]=q at *;have HV:Hid (AC w.heap.size p wr):=hz.out.1;have HB:Hid (Below w.heap.size w wr):=hz.out.2.1;have H1:Hid _:=hR1;have H2:Hid _:=hR2;clear hz hR1 hR2;have HA:Hid (Below wr.heap.size wr (wr.alloc (.cells #[.int .i64 q.r,.int .i64 q.a] 118))):=(Below.refl _ _).alloc (Nat.le_refl _) _;have HV1:Hid (AC w.heap.size p (wr.alloc (.cells #[.int .i64 q.r,.int .i64 q.a] 118))):=AC.below HV.out HA.out;obtain⟨c1,c2,f1,f2,_⟩:=HV1.out;have c3:(wr.alloc (.cells #[.int .i64 q.r,.int .i64 q.a] 118)).cell? ⟨wr.heap.size,0,none⟩=some (.int .i64 q.r):=by simp
   have c4:(wr.alloc (.cells #[.int .i64 q.r,.int .i64 q.a] 118)).cell? ⟨wr.heap.size,1,none⟩=some (.int .i64 q.a):=by simp
   go_wp2_with fail;obtain⟨bb,hbb⟩:∃bb,CS p q=bb:=⟨_,rfl⟩;refine(FX p q bb hbb _).mono ?_;rintro _ w2 ⟨rfl,hb2⟩;have HV2:Hid (AC w.heap.size p w2):=AC.below HV1.out hb2;have HW2:Hid (Below w.heap.size w w2):=(HB.out.trans (HA.out.mono HB.out.size)).trans (hb2.mono (by have:=HB.out.size;simp;omega));rw[<-hb2.cell (p:=⟨wr.heap.size,0,none⟩) (by simp)]at c3;rw[<-hb2.cell (p:=⟨wr.heap.size,1,none⟩) (by simp)]at c4;clear c1 c2 f1 f2 hb2 HV1 HA HV HB g1 g2
   cases bb
   ·have e:=H1.out hbb
    subst e;go_wp2;go_ret;exact⟨rfl,HW2.out⟩
   ·have HR:Hid _:=H2.out hbb
    clear H1 H2 hbb;obtain⟨c1,c2,f1,f2,_⟩:=HV2.out;go_wp2;go_roundw
    case rel=>exact⟨k+1,q,by omega,by go_num,HV2.out.set q,(HW2.out.setCell (p:=⟨_,0,none⟩) (Nat.le_refl _) _).setCell (p:=⟨_,1,none⟩) (Nat.le_refl _) _,HR.out⟩
    case measure=>simp[intOf];omega
  ·have e:R=true:=by
    have:=hz.out.2.2;rw[List.drop_eq_nil_of_le (by omega)]at this;exact this.symm
   subst e;go_wp2;go_ret;exact⟨rfl,hz.out.2.1⟩
def AT (n:Nat):List UInt8:=if n<128 then [UInt8.ofNat n]else UInt8.ofNat (n % 128+128)::AT (n / 128)
termination_by n
decreasing_by omega
theorem DK {n:Nat} (h:n<128):AT n=[UInt8.ofNat n]:=by rw[AT,if_pos h]
theorem Ji {n:Nat} (h:¬n<128):AT n=UInt8.ofNat (n % 128+128)::AT (n / 128):=by rw[AT,if_neg h]
def bcs (l:List UInt8):List Value:=l.map fun b=>Value.int .u8 b.toNat
theorem JH (a b:List UInt8):bcs (a++b)=bcs a++bcs b:=by simp[bcs]
def Gr (w w':World) (v v':Value):Prop:=w.grownBy w' v.ownBlock/\∀k,v'.ownBlock=some k->v.ownBlock=some k\/w.heap.size<=k
theorem Gr.refl (w:World) (v:Value):Gr w w v v:=⟨⟨rfl,rfl,rfl,Nat.le_refl _,fun _ _ _=>rfl⟩,fun _ h=> .inl h⟩
theorem Gr.trans {w w1 w2:World} {v v1 v2:Value} (h:Gr w w1 v v1) (k:Gr w1 w2 v1 v2):Gr w w2 v v2:=by
 have hs:=h.1.size;refine⟨⟨k.1.os.trans h.1.os,k.1.tape.trans h.1.tape,k.1.output.trans h.1.output,Nat.le_trans hs k.1.size,fun b hb hn=> ?_⟩,fun b hb=> ?_⟩
 ·rw[k.1.block b (Nat.lt_of_lt_of_le hb hs) (fun e=>by
   rcases h.2 b e.symm with h2|h2
   ·exact hn h2.symm
   ·omega),h.1.block b hb hn]
 ·rcases k.2 b hb with h2|h2
  ·exact h.2 b h2
  ·exact .inr (Nat.le_trans hs h2)
theorem Gr.alloc {w w':World} {v v':Value} (o:Obj) (h:Gr (w.alloc o) w' v v'):Gr w w' v v':=by
 have hs:=h.1.size;simp at hs;refine⟨⟨h.1.os,h.1.tape,h.1.output,by omega,fun b hb hn=> ?_⟩,fun b hb=> ?_⟩
 ·rw[h.1.block b (by simp;omega) hn]
  exact((Below.refl _ w).alloc (Nat.le_refl _) o).block b hb
 ·rcases h.2 b hb with h2|h2
  ·exact .inl h2
  ·exact .inr (by simp at h2;omega)
theorem Gr.below {w w':World} {v v':Value} {B:Nat} (h:Gr w w' v v') (hv:∀k,v.ownBlock=some k->B<=k) (hB:B<=w.heap.size):Below B w w':=
 (Below.refl B w).grown h.1 hB hv
theorem GU (g n c:Nat):(Value.slice (some ⟨g,0,none⟩) n c).ownBlock=some g:=rfl
def Uh:Value->Nat
 | .int _ n=>n.toNat
 |_=>0
theorem KD (x:Int):∀u∈[Value.int .u8 x],u.oneCell'=true:=by intro y hy;simp at hy;subst hy;rfl
theorem Hj (B:Nat) (v:Value) (l:List UInt8) (n:Nat) (w:World) (hown:w.ownsRow B 5 1 v l.length (bcs l)) (hB:B<=w.heap.size) (hl:(l++AT n).length<=1000000) (hn:n<18446744073709551616):
  Calls Tryz.prog 217 #[v,.int .u64 n] w fun e w'=>∃v',e= .returned v'/\w'.ownsRow B 5 1 v' (l++AT n).length (bcs (l++AT n))/\Gr w w' v v':=by
 obtain⟨i0,hi,hz0,hz1,hz2⟩:=CC infoByte;obtain⟨T,hT⟩:∃T,l++AT n=T:=⟨_,rfl⟩;rw[hT]at hl ⊢;have HT:Hid (l++AT n=T):=hT;clear hT;go_enter Tryz.func217,Tryz.ntmps217;go_wp2;go_loopw [0,1] (fun x i wr=>∃(l:List UInt8) (m:Nat),m<18446744073709551616/\i= .int .u64 m/\Hid (l++AT m=T)/\Hid (wr.ownsRow B 5 1 x l.length (bcs l)/\Gr w wr v x)) (fun _ i _=>Uh i)
 case atStart=>exact⟨l,n,hn,rfl,HT,hown,Gr.refl _ _⟩
 case round=>
  clear hown HT hn;obtain⟨l,m,hm,rfl,hT,hown⟩:=hrel
  have hlen:l.length+1<=1000000:=by
   have e:=hT.out;rw[AT]at e;rw[<-e]at hl;split at hl<;>simp at hl<;>omega
  by_cases hs:m<128
  ·have hs':¬(128:Int)<=(m:Int):=by omega
   go_wp2_with (at_builtin;refine wpList_append_lies _ rfl _ _ 199 rfl B 5 i0 (.int .u8 0) 1 1 Tryz.underlying199 hi hz0 hz1 hz2 rfl (by decide) _ _ _ rfl (hown.out.1.alloc _) ⟨wr.heap.size,0,none⟩ 1 1 [.int .u8 (m)] rfl rfl (cell_one_new _ _ _) (KD _) (by decide) (by simp[maxLen];omega) (by omega) (by have:=hown.out.2.1.size;simp;omega) _ rfl ?_)
   intro g cap w1 hown' hgrow hg _
   have HB1:Hid (Gr w w1 v (.slice (some ⟨g,0,none⟩) (l.length+1) cap)):=hown.out.2.trans (Gr.alloc _ ⟨hgrow,fun k hk=>by
    have e:g=k:=by simpa [GU]using hk
    subst e;rcases hg with h|h
    ·exact .inl h
    ·exact .inr (by rw[h];simp)⟩)
   have HO1:Hid (w1.ownsRow B 5 1 (.slice (some ⟨g,0,none⟩) (l.length+1) cap) T.length (bcs T)):=by
    have e:l++[UInt8.ofNat m]=T:=by rw[<-hT.out,DK hs]
    refine L7 hown' (by rw[<-e];simp) ?_;rw[<-e,JH];simp[bcs];omega
   clear hown hown' hgrow;go_wp2;go_ret;exact⟨_,rfl,HO1.out,HB1.out⟩
  ·have hs':(128:Int)<=(m:Int):=by omega
   go_wp2_with (at_builtin;refine wpList_append_lies _ rfl _ _ 199 rfl B 5 i0 (.int .u8 0) 1 1 Tryz.underlying199 hi hz0 hz1 hz2 rfl (by decide) _ _ _ rfl (hown.out.1.alloc _) ⟨wr.heap.size,0,none⟩ 1 1 [.int .u8 ((m:Int) % 128+128)] rfl rfl (cell_one_new _ _ _) (KD _) (by decide) (by simp[maxLen];omega) (by omega) (by have:=hown.out.2.1.size;simp;omega) _ rfl ?_)
   intro g cap w1 hown' hgrow hg _
   have HB1:Hid (Gr w w1 v (.slice (some ⟨g,0,none⟩) (l.length+1) cap)):=hown.out.2.trans (Gr.alloc _ ⟨hgrow,fun k hk=>by
    have e:g=k:=by simpa [GU]using hk
    subst e;rcases hg with h|h
    ·exact .inl h
    ·exact .inr (by rw[h];simp)⟩)
   have HT2:Hid ((l++[UInt8.ofNat (m % 128+128)])++AT (m / 128)=T):=by
    show _=_;rw[<-hT.out,Ji hs];simp
   have HO1:Hid (w1.ownsRow B 5 1 (.slice (some ⟨g,0,none⟩) (l.length+1) cap) (l++[UInt8.ofNat (m % 128+128)]).length (bcs (l++[UInt8.ofNat (m % 128+128)]))):=by
    refine L7 hown' (by simp) ?_;rw[JH];simp[bcs];omega
   clear hown hown' hgrow hT;go_wp2;go_roundw
   case rel=>exact⟨_,m / 128,by omega,by simp,HT2,HO1.out,HB1.out⟩
   case measure=>simp[Uh];omega
def Fl (p q:Pl):List UInt8:=if q.r=p.r then AT (2 * (q.a-p.a)).toNat else AT (2 * (q.r-p.r)+1).toNat++AT q.a.toNat
def AJ:Pl->List Pl->List UInt8
 |_,[]=>[]
 |p,q::l=>Fl p q++AJ q l
def Ej (l:List Pl):List UInt8:=AJ ⟨0,0⟩ l
theorem Fc (k:Nat):∀n,n<128 ^ (k+1)->(AT n).length<=k+1:=by
 induction k with
 |zero=>intro n hn;rw[DK (by omega)];simp
 |succ k ih=>
  intro n hn
  by_cases h:n<128
  ·rw[DK h];simp
  ·rw[Ji h,List.length_cons]
   have:=ih (n / 128) (by rw[Nat.pow_succ]at hn;omega);omega
theorem Fb (n:Nat):1<=(AT n).length:=by rw[AT];split<;>simp
theorem DQ {p q:Pl} (h:CS p q=true):(1<=q.r/\q.r<=1073741824)/\(0<=q.a/\q.a<1073741824)/\((q.r=p.r/\p.a<q.a)\/(q.r≠p.r/\p.r<q.r)):=by
 simp only[CS,okB,Bool.and_eq_true,decide_eq_true_eq]at h;obtain⟨⟨⟨⟨h1,h2⟩,h3⟩,h4⟩,h5⟩:=h;refine⟨⟨h1,h2⟩,⟨h3,h4⟩,?_⟩;unfold Nl QD at h5
 by_cases e:p.r=q.r
 ·rw[if_pos e]at h5
  refine .inl ⟨e.symm,?_⟩
  by_cases e2:p.a<q.a
  ·exact e2
  ·rw[if_neg e2]at h5
   split at h5<;>omega
 ·rw[if_neg e]at h5
  refine .inr ⟨fun x=>e x.symm,?_⟩
  by_cases e2:p.r<q.r
  ·exact e2
  ·rw[if_neg e2]at h5
   split at h5<;>omega
def Ij (p:Pl):Prop:=0<=p.r/\p.r<=1073741824/\0<=p.a/\p.a<1073741824
theorem enc_len (l:List Pl):∀p,Ij p->As p l=true->(AJ p l).length<=10 * l.length/\l.length<=(AJ p l).length:=by
 induction l with
 |nil=>intro p _ _;simp[AJ]
 |cons q l ih=>
  intro p hp h;simp only[As,Bool.and_eq_true]at h;obtain⟨⟨a1,a2⟩,⟨a3,a4⟩,h5⟩:=DQ h.1;obtain⟨b1,b2,b3,b4⟩:=hp;have:=ih q ⟨by omega,by omega,by omega,by omega⟩ h.2;simp only[AJ,List.length_append,List.length_cons];unfold Fl;split
  ·have k1:=Fc 4 (2 * (q.a-p.a)).toNat (by omega)
   have k2:=Fb (2 * (q.a-p.a)).toNat;omega
  ·have k1:=Fc 4 (2 * (q.r-p.r)+1).toNat (by omega)
   have k2:=Fc 4 q.a.toNat (by omega);have k3:=Fb (2 * (q.r-p.r)+1).toNat;simp only[List.length_append];omega
theorem Dx (x:Int) (h0:0<=x) (hx:x<18446744073709551616) (B:Nat) (v:Value) (l:List UInt8) (w:World) (hown:w.ownsRow B 5 1 v l.length (bcs l)) (hB:B<=w.heap.size) (hl:(l++AT x.toNat).length<=1000000):
  Calls Tryz.prog 217 #[v,.int .u64 x] w fun e w'=>∃v',e= .returned v'/\w'.ownsRow B 5 1 v' (l++AT x.toNat).length (bcs (l++AT x.toNat))/\Gr w w' v v':=by
 have h:=Hj B v l x.toNat w hown hB hl (by omega);rw[Int.toNat_of_nonneg h0]at h;exact h
theorem LM (W:World) (b o:Nat) (v:Value):W.grownBy (W.setCell ⟨b,o,none⟩ v) (some b):=
 ⟨rfl,rfl,rfl,by simp[World.setCell],fun k _ hk=>Below.heap_setCell W ⟨b,o,none⟩ v k (fun e=>hk (by rw[e]))⟩
theorem Fy {w:World} {B:Nat} {t:TypeId} {z:Nat} {v:Value} {n:Nat} {xs:List Value} (h:w.ownsRow B t z v n xs) (b o:Nat) (hb:b<B) (u:Value):(w.setCell ⟨b,o,none⟩ u).ownsRow B t z v n xs:=by
 refine h.kept (LM w b o u) ?_
 cases e:v.ownBlock with
 |none=>exact .inl rfl
 |some k=>exact .inr (fun e2=>by have:=(h.lt k e).1;cases e2;omega)
theorem AC.gr {B:Nat} {p:Pl} {w w':World} {v v':Value} (h:AC B p w) (hg:Gr w w' v v') (hn:v.ownBlock≠some B):AC B p w':=by
 obtain⟨h1,h2,h3,h4,h5⟩:=h;have e:w'.heap[B]? =w.heap[B]? :=hg.1.block B h5 (fun e=>hn e.symm);refine⟨?_,?_,?_,?_,Nat.lt_of_lt_of_le h5 hg.1.size⟩
 ·rw[<-h1];exact World.cell?_of_block e
 ·rw[<-h2];exact World.cell?_of_block e
 ·rw[<-h3];exact World.frozen?_of_block e
 ·rw[<-h4];exact World.frozen?_of_block e
theorem AC.box (w:World) (q:Pl):AC w.heap.size q (w.alloc (.cells #[.int .i64 q.r,.int .i64 q.a] 118)):=by
 have hn:=heap_alloc_new w (.cells #[.int .i64 q.r,.int .i64 q.a] 118);refine⟨by simp,by simp,?_,?_,by simp⟩
 ·simp only[World.frozen?,hn];simp
 ·simp only[World.frozen?,hn];simp
theorem FS {w:World} {B:Nat} {t:TypeId} {z:Nat} {v:Value} {n:Nat} {xs:List Value} (h:w.ownsRow B t z v n xs) (b:Nat) (hb:b<B\/w.heap.size<=b):v.ownBlock≠some b:=fun e=>by
 have:=h.lt b e;omega
theorem Ss (w:World):(convert 199 9 (.slice none 0 0)).run Tryz.prog w= .ok (.string ⟨#[]⟩) w:=by kernel_rfl
theorem O0 {w:World} {B:Nat} {v:Value} {l:List UInt8} (h:w.ownsRow B 5 1 v l.length (bcs l)):(convert 199 9 v).run Tryz.prog w= .ok (.string ⟨l.toArray⟩) w:=by
 rcases h.2 with⟨rfl,h0⟩|⟨g,cap,cur,rfl,_,hg,_⟩
 ·have:l=[]:=List.length_eq_zero_iff.1 h0
  subst this;exact Ss w
 ·exact run_convert_bytes_back (P:=Tryz.prog) w 199 9 5 ⟨g,0,none⟩ cap l Tryz.underlying199 Tryz.underlying5 Tryz.underlying9 (fun j hj=>h.cells (g:=g) rfl j _ (by simp[bcs,hj]))
theorem Rr (b:Bool) (a:Option Addr) (len cap:Nat) (xs:List Pl) (hb:DG xs=b) (w:World) (hr:LY w a len xs):
  Calls Tryz.prog 216 #[.slice a len cap] w fun e w'=>e= .returned (.bool b)/\Below w.heap.size w w':=by
 rw[<-hb];exact PA a len cap xs w hr
set_option maxHeartbeats 2000000
theorem Po (a:Option Addr) (len cap:Nat) (xs:List Pl) (w:World) (hr:LY w a len xs) (hn:DG xs=true) (hl:xs.length<=1000):
  Calls Tryz.prog 183 #[.slice a len cap] w fun e w'=>e= .returned (.tuple #[.string ⟨(Ej xs).toArray⟩,.nilIface])/\Below w.heap.size w w':=by
 have HR:Hid (LY w a len xs/\DG xs=true):=⟨hr,hn⟩;obtain⟨rfl,_,_⟩:=hr;clear hn;obtain⟨T,hT⟩:∃T,Ej xs=T:=⟨_,rfl⟩
 have HT:Hid (AJ ⟨0,0⟩ (xs.drop 0)=T/\T.length<=10000):=⟨hT,by
  have:=(enc_len xs ⟨0,0⟩ ⟨by decide,by decide,by decide,by decide⟩ HR.out.2).1;rw[<-hT];show(AJ ⟨0,0⟩ xs).length<=10000;omega⟩
 rw[hT];clear hT;go_enter Tryz.func183,Tryz.ntmps183;go_wp2_with fail;refine(Rr true a _ cap xs HR.out.2 w HR.out.1).mono ?_;rintro _ w1 ⟨rfl,hb1⟩;have HB1:Hid (Below w.heap.size w w1):=hb1;have hx:=(LY.below HR.out.1 hb1).2.2;clear hb1;go_wp2;go_loopw [4,14] (fun v i wr=>∃(k:Nat) (p:Pl) (l:List UInt8),k<=xs.length/\i= .int .i64 k/\Hid (AC w1.heap.size p wr/\Below w1.heap.size w1 wr/\As p (xs.drop k)=true/\l++AJ p (xs.drop k)=T)/\Hid (wr.ownsRow (w1.heap.size+1) 5 1 v l.length (bcs l))/\Hid (Ij p)) (fun _ i _=>xs.length-(intOf i).toNat)
 case atStart=>exact⟨0,⟨0,0⟩,[],Nat.zero_le _,rfl,⟨AC.new w1,(Below.refl _ _).alloc (Nat.le_refl _) _,HR.out.2,HT.out.1⟩,World.ownsRow_nil _ _ _ _,⟨by decide,by decide,by decide,by decide⟩⟩
 case round=>
  obtain⟨k,p,l,hk,rfl,hz,hown,hahead⟩:=hrel
  by_cases hlt:k<xs.length
  ·rcases hx with hx|⟨b,off,rfl,hb,hrow⟩
   ·simp[hx]at hlt
   obtain⟨g1,g2⟩:=hrow k hlt;clear hrow;rw[<-hz.out.2.1.cell (p:=⟨b,_,none⟩) hb]at g1 g2
   have hf:CS p xs[k]=true/\As xs[k] (xs.drop (k+1))=true/\(l++Fl p xs[k])++AJ xs[k] (xs.drop (k+1))=T:=by
    have h1:=hz.out.2.2.1;have h2:=hz.out.2.2.2;rw[List.drop_eq_getElem_cons hlt,As,Bool.and_eq_true]at h1;rw[List.drop_eq_getElem_cons hlt,AJ]at h2;exact⟨h1.1,h1.2,by rw[List.append_assoc];exact h2⟩
   have i1:(k:Int)<(xs.length:Int):=by omega
   generalize xs[k]=q at *;obtain⟨⟨a1,a2⟩,⟨a3,a4⟩,h5⟩:=DQ hf.1;obtain⟨b1,b2,b3,b4⟩:=hahead.out;have HF:Hid (As q (xs.drop (k+1))=true/\(l++Fl p q)++AJ q (xs.drop (k+1))=T):=hf.2;have HV:Hid (AC w1.heap.size p wr):=hz.out.1;have HB:Hid (Below w1.heap.size w1 wr):=hz.out.2.1
   have HL:Hid ((l++Fl p q).length<=10000):=by
    show _<=_;have h1:=HT.out.2;rw[<-hf.2.2]at h1;rw[List.length_append]at h1;omega
   clear hz hahead hf;have HA:Hid (Below wr.heap.size wr (wr.alloc (.cells #[.int .i64 q.r,.int .i64 q.a] 118))):=(Below.refl _ _).alloc (Nat.le_refl _) _;have HV1:Hid (AC w1.heap.size p (wr.alloc (.cells #[.int .i64 q.r,.int .i64 q.a] 118))):=AC.below HV.out HA.out;have HO1:Hid ((wr.alloc (.cells #[.int .i64 q.r,.int .i64 q.a] 118)).ownsRow (w1.heap.size+1) 5 1 u4 l.length (bcs l)):=FT hown.out HA.out;obtain⟨c1,c2,f1,f2,hlt1⟩:=HV1.out;have c3:(wr.alloc (.cells #[.int .i64 q.r,.int .i64 q.a] 118)).cell? ⟨wr.heap.size,0,none⟩=some (.int .i64 q.r):=by simp
   have c4:(wr.alloc (.cells #[.int .i64 q.r,.int .i64 q.a] 118)).cell? ⟨wr.heap.size,1,none⟩=some (.int .i64 q.a):=by simp
   rcases h5 with⟨h5,h6⟩|⟨h5,h6⟩
   ·have HQ:Hid (l++AT (2 * (q.a-p.a)).toNat=l++Fl p q):=by show _=_;rw[Fl,if_pos h5]
    have HL2:Hid ((l++AT (2 * (q.a-p.a)).toNat).length<=1000000):=by show _<=_;rw[HQ.out];have:=HL.out;omega
    have hd1:(q.r != p.r)=false:=by simp[h5]
    clear h5;have HC1:Hid (AC wr.heap.size q (wr.alloc (.cells #[.int .i64 q.r,.int .i64 q.a] 118))):=AC.box wr q;have HN1:Hid (u4.ownBlock≠some wr.heap.size):=FS hown.out _ (.inr (Nat.le_refl _));have HB1':Hid (Below w1.heap.size w1 (wr.alloc (.cells #[.int .i64 q.r,.int .i64 q.a] 118))):=HB.out.trans (HA.out.mono HB.out.size);have HS1:Hid (w1.heap.size+1<=(wr.alloc (.cells #[.int .i64 q.r,.int .i64 q.a] 118)).heap.size):=by show _<=_;omega
    go_wp2_with fail;refine(Dx (2 * (q.a-p.a)) (by omega) (by omega) (w1.heap.size+1) u4 l _ HO1.out HS1.out HL2.out).mono ?_;rintro _ w2 ⟨v2,rfl,ho2,hg2⟩;have HO2:Hid (w2.ownsRow (w1.heap.size+1) 5 1 v2 (l++AT (2 * (q.a-p.a)).toNat).length (bcs (l++AT (2 * (q.a-p.a)).toNat))):=ho2;have HV2:Hid (AC w1.heap.size p w2):=AC.gr HV1.out hg2 (FS HO1.out _ (.inl (by omega)));have HC2:Hid (AC wr.heap.size q w2):=AC.gr HC1.out hg2 HN1.out;have HB2:Hid (Below w1.heap.size w1 w2):=HB1'.out.trans (hg2.below (fun k hk=>by have:=(HO1.out.lt k hk).1;omega) (by have:=HS1.out;omega));have HS2:Hid (w1.heap.size+1<=w2.heap.size):=Nat.le_trans HS1.out hg2.1.size;clear ho2 hg2 c1 c2 c3 c4 f1 f2 HO1 HV1 HC1 HN1 HB1' HS1 g1 g2 HA HB HV hd1 hown;obtain⟨c1,c2,f1,f2,_⟩:=HV2.out;obtain⟨c3,c4,_,_,_⟩:=HC2.out;go_wp2;go_roundw
    case rel=>exact⟨k+1,q,l++AT (2 * (q.a-p.a)).toNat,by omega,by go_num,⟨HV2.out.set q,(HB2.out.setCell (p:=⟨_,0,none⟩) (Nat.le_refl _) _).setCell (p:=⟨_,1,none⟩) (Nat.le_refl _) _,HF.out.1,by rw[HQ.out];exact HF.out.2⟩,Fy (Fy HO2.out _ _ (by omega) _) _ _ (by omega) _,⟨by omega,by omega,by omega,by omega⟩⟩
    case measure=>simp[intOf];omega
   ·have HQ:Hid ((l++AT (2 * (q.r-p.r)+1).toNat)++AT q.a.toNat=l++Fl p q):=by show _=_;rw[Fl,if_neg h5,List.append_assoc]
    have HL3:Hid (((l++AT (2 * (q.r-p.r)+1).toNat)++AT (q.a).toNat).length<=1000000):=by show _<=_;rw[HQ.out];have:=HL.out;omega
    have HL2:Hid ((l++AT (2 * (q.r-p.r)+1).toNat).length<=1000000):=by show _<=_;have:=HL3.out;rw[List.length_append]at this;omega
    have HC1:Hid (AC wr.heap.size q (wr.alloc (.cells #[.int .i64 q.r,.int .i64 q.a] 118))):=AC.box wr q;have HN1:Hid (u4.ownBlock≠some wr.heap.size):=FS hown.out _ (.inr (Nat.le_refl _));have HB1':Hid (Below w1.heap.size w1 (wr.alloc (.cells #[.int .i64 q.r,.int .i64 q.a] 118))):=HB.out.trans (HA.out.mono HB.out.size);have HS1:Hid (w1.heap.size+1<=(wr.alloc (.cells #[.int .i64 q.r,.int .i64 q.a] 118)).heap.size):=by show _<=_;omega
    go_wp2_with fail;refine(Dx (2 * (q.r-p.r)+1) (by omega) (by omega) (w1.heap.size+1) u4 l _ HO1.out HS1.out HL2.out).mono ?_;rintro _ w2 ⟨v2,rfl,ho2,hg2⟩;have HO2:Hid (w2.ownsRow (w1.heap.size+1) 5 1 v2 (l++AT (2 * (q.r-p.r)+1).toNat).length (bcs (l++AT (2 * (q.r-p.r)+1).toNat))):=ho2;have HV2:Hid (AC w1.heap.size p w2):=AC.gr HV1.out hg2 (FS HO1.out _ (.inl (by omega)));have HC2:Hid (AC wr.heap.size q w2):=AC.gr HC1.out hg2 HN1.out;have HB2:Hid (Below w1.heap.size w1 w2):=HB1'.out.trans (hg2.below (fun k hk=>by have:=(HO1.out.lt k hk).1;omega) (by have:=HS1.out;omega));have HS2:Hid (w1.heap.size+1<=w2.heap.size):=Nat.le_trans HS1.out hg2.1.size
    have HN2:Hid (v2.ownBlock≠some wr.heap.size):=fun e=>by
     rcases hg2.2 _ e with h|h
     ·exact HN1.out h
     ·simp at h
      omega
    clear ho2 hg2 c1 c2 c3 c4 f1 f2 HO1 HV1 HC1 HN1 HB1' HS1 g1 g2 HA HB HV hown;obtain⟨c3,c4,_,_,_⟩:=HC2.out;go_wp2_with fail;refine(Dx (q.a) (by omega) (by omega) (w1.heap.size+1) v2 (l++AT (2 * (q.r-p.r)+1).toNat) _ HO2.out HS2.out HL3.out).mono ?_;rintro _ w3 ⟨v3,rfl,ho3,hg3⟩;have HO3:Hid (w3.ownsRow (w1.heap.size+1) 5 1 v3 ((l++AT (2 * (q.r-p.r)+1).toNat)++AT (q.a).toNat).length (bcs ((l++AT (2 * (q.r-p.r)+1).toNat)++AT (q.a).toNat))):=ho3;have HV3:Hid (AC w1.heap.size p w3):=AC.gr HV2.out hg3 (FS HO2.out _ (.inl (by omega)));have HC3:Hid (AC wr.heap.size q w3):=AC.gr HC2.out hg3 HN2.out;have HB3:Hid (Below w1.heap.size w1 w3):=HB2.out.trans (hg3.below (fun k hk=>by have:=(HO2.out.lt k hk).1;omega) (by have:=HS2.out;omega));have HS3:Hid (w1.heap.size+1<=w3.heap.size):=Nat.le_trans HS2.out hg3.1.size;clear ho3 hg3 HO2 HV2 HC2 HN2 HB2 HS2 c3 c4;obtain⟨c1,c2,f1,f2,_⟩:=HV3.out;obtain⟨c3,c4,_,_,_⟩:=HC3.out;go_wp2;go_roundw
    case rel=>exact⟨k+1,q,(l++AT (2 * (q.r-p.r)+1).toNat)++AT q.a.toNat,by omega,by go_num,⟨HV3.out.set q,(HB3.out.setCell (p:=⟨_,0,none⟩) (Nat.le_refl _) _).setCell (p:=⟨_,1,none⟩) (Nat.le_refl _) _,HF.out.1,by rw[HQ.out];exact HF.out.2⟩,Fy (Fy HO3.out _ _ (by omega) _) _ _ (by omega) _,⟨by omega,by omega,by omega,by omega⟩⟩
    case measure=>simp[intOf];omega
  ·have e:l=T:=by
    have:=hz.out.2.2.2;rw[List.drop_eq_nil_of_le (by omega),AJ,List.append_nil]at this;exact this
   subst e;have ht:=O0 hown.out;go_wp2;go_ret2;exact⟨rfl,HB1.out.trans (hz.out.2.1.mono HB1.out.size)⟩
def rnF:Nat->Nat->Nat->List UInt8->Nat×Nat
 |0,_,_,_=>(0,0)
 |_+1,_,_,[]=>(0,0)
 |f+1,i,acc,c::l=>
  if c.toNat<128 then(if 0<i/\c.toNat=0 then(0,0)else(acc+c.toNat * 128 ^ i,i+1))else rnF f (i+1) (acc+c.toNat % 128 * 128 ^ i) l
def rnL (l:List UInt8):Nat×Nat:=rnF 5 0 0 l
theorem Q2 (s:ByteArray) (k:Nat) (h:k<s.size):s.data.toList.drop k=s[k]::s.data.toList.drop (k+1):=by
 rw[List.drop_eq_getElem_cons (by simpa using h)];simp;rfl
theorem R9 (a b:Nat) (ha:a<4611686018427387904) (hb:b<4611686018427387904):bits .or .i64 (a:Int) (b:Int)=((a ||| b:Nat):Int):=by
 have hx:a ||| b<2 ^ 62:=Nat.or_lt_two_pow (by omega) (by omega)
 show IntKind.i64.wrap ((BitVec.ofInt 64 (a:Int) ||| BitVec.ofInt 64 (b:Int)).toNat:Int)=_;have ea:(BitVec.ofInt 64 (a:Int)).toNat=a:=by rw[BitVec.toNat_ofInt];omega
 have eb:(BitVec.ofInt 64 (b:Int)).toNat=b:=by rw[BitVec.toNat_ofInt];omega
 rw[BitVec.toNat_or,ea,eb,IntKind.wrap_i64];omega
theorem UH (n v j:Nat) (hn:n<2 ^ j):n ||| v * 2 ^ j=n+v * 2 ^ j:=by
 have:=Nat.shiftLeft_add_eq_or_of_lt (i:=j) hn v;rw[Nat.shiftLeft_eq]at this;rw[Nat.or_comm,<-this,Nat.add_comm]
theorem Cs (k n x M:Nat) (hk:k<=4) (hM:128 ^ k=M) (hn:n<M):bits .or .i64 (n:Int) ((x:Int) % 128 * (M:Int))=((n+x % 128 * M:Nat):Int):=by
 have hM2:M=2 ^ (7 * k):=by rw[<-hM,Nat.pow_mul]
 have hM3:M<=268435456:=by
  have h5:k=0\/k=1\/k=2\/k=3\/k=4:=by omega
  rcases h5 with rfl|rfl|rfl|rfl|rfl<;>omega
 have hv:x % 128 * M<=127 * M:=Nat.mul_le_mul_right _ (by omega);have e:((x:Int) % 128 * (M:Int))=((x % 128 * M:Nat):Int):=by simp
 rw[e,R9 _ _ (by omega) (by omega)];rw[hM2]at hn ⊢;rw[UH n (x % 128) (7 * k) hn]
theorem Dh (k n x:Nat) (s:ByteArray) (h:k<s.size) (h5:k<5) (hx:s[k].toNat=x):rnF (5-k) k n (s.data.toList.drop k)=
  if x<128 then(if 0<k/\x=0 then(0,0)else(n+x * 128 ^ k,k+1))else rnF (5-(k+1)) (k+1) (n+x % 128 * 128 ^ k) (s.data.toList.drop (k+1)):=by
 rw[Q2 s k h,show 5-k=(5-(k+1))+1 by omega,rnF,hx]
theorem L4 (s:ByteArray) (w:World) (hs:s.size<=1000000):
  Calls Tryz.prog 188 #[.string s] w fun e w'=>e= .returned (.tuple #[.int .i64 (rnL s.data.toList).1,.int .i64 (rnL s.data.toList).2])/\w'=w:=by
 obtain⟨R,hR⟩:∃R,rnL s.data.toList=R:=⟨_,rfl⟩;have HR:Hid (rnF (5-0) 0 0 (s.data.toList.drop 0)=R):=hR;rw[hR];clear hR
 by_cases h5:(5:Int)<(s.size:Int)
 ·skip
  go_enter Tryz.func188,Tryz.ntmps188;go_wp2
  go_loop [4,9] (fun x i=>∃k n:Nat,k<=s.size/\k<=5/\n<128 ^ k/\x= .int .i64 n/\i= .int .i64 k/\Hid (rnF (5-k) k n (s.data.toList.drop k)=R)) (fun _ i=>5-(intOf i).toNat)
  case atStart=>exact⟨0,0,Nat.zero_le _,by omega,by omega,rfl,rfl,HR⟩
  case round=>
   clear HR;obtain⟨k,n,hk,hk5,hn,rfl,rfl,hz⟩:=hrel
   by_cases hlt:k<s.size/\k<5
   ·obtain⟨h1,h2⟩:=hlt
    have hx:=UInt8.toNat_lt s[k];obtain⟨x,hy⟩:∃x,s[k].toNat=x:=⟨_,rfl⟩;rw[hy]at hx;have hk':k=0\/k=1\/k=2\/k=3\/k=4:=by omega
    rcases hk' with rfl|rfl|rfl|rfl|rfl
    ·have hM:n<1:=hn
     have hor:=Cs 0 n x 1 (by omega) (by decide) hM;simp only[Int.natCast_one,Int.mul_one,Nat.mul_one]at hor;have hst:=Dh 0 n x s h1 h2 hy;have HZ:Hid _:=hst.symm.trans hz.out;clear hst hz
     by_cases hc:x<128
     ·rw[if_pos hc]at HZ
      rw[if_neg (by omega)]at HZ;have HR:Hid (R=(n+x,1)):=by show _=_;rw[<-HZ.out];simp
      clear HZ;go_wp2;go_ret2;rw[HR.out];exact⟨by simp;omega,rfl⟩
     ·rw[if_neg hc]at HZ
      go_wp2
      go_round
      case rel=>exact⟨1,n+x % 128 * 1,by omega,by omega,by omega,by simp,by go_num,HZ⟩
      case measure=>simp[intOf]
    ·have hM:n<128:=hn
     have hor:bits .or .i64 (n:Int) ((x:Int) % 128 * 128)=((n+x % 128 * 128:Nat):Int):=Cs 1 n x 128 (by omega) (by decide) hM;have hst:=Dh 1 n x s h1 h2 hy;have HZ:Hid _:=hst.symm.trans hz.out;clear hst hz
     by_cases hc:x<128
     ·rw[if_pos hc]at HZ
      by_cases hc0:x=0
      ·rw[if_pos ⟨by omega,hc0⟩]at HZ
       have hb0:((x:Int) == 0)=true:=by simp[hc0]
       clear hc0;have HR:Hid (R=(0,0)):=HZ.out.symm;clear HZ;go_wp2;go_ret2;rw[HR.out];exact⟨by simp,rfl⟩
      ·rw[if_neg (by omega)]at HZ
       have hb0:((x:Int) == 0)=false:=by simp[hc0]
       have HR:Hid (R=(n+x * 128,2)):=by show _=_;rw[<-HZ.out]
       clear HZ;go_wp2;go_ret2;rw[HR.out];exact⟨by simp;omega,rfl⟩
     ·rw[if_neg hc]at HZ
      go_wp2
      go_round
      case rel=>exact⟨2,n+x % 128 * 128,by omega,by omega,by omega,by simp,by go_num,HZ⟩
      case measure=>simp[intOf]
    ·have hM:n<16384:=hn
     have hor:bits .or .i64 (n:Int) ((x:Int) % 128 * 16384)=((n+x % 128 * 16384:Nat):Int):=Cs 2 n x 16384 (by omega) (by decide) hM;have hst:=Dh 2 n x s h1 h2 hy;have HZ:Hid _:=hst.symm.trans hz.out;clear hst hz
     by_cases hc:x<128
     ·rw[if_pos hc]at HZ
      by_cases hc0:x=0
      ·rw[if_pos ⟨by omega,hc0⟩]at HZ
       have hb0:((x:Int) == 0)=true:=by simp[hc0]
       clear hc0;have HR:Hid (R=(0,0)):=HZ.out.symm;clear HZ;go_wp2;go_ret2;rw[HR.out];exact⟨by simp,rfl⟩
      ·rw[if_neg (by omega)]at HZ
       have hb0:((x:Int) == 0)=false:=by simp[hc0]
       have HR:Hid (R=(n+x * 16384,3)):=by show _=_;rw[<-HZ.out]
       clear HZ;go_wp2;go_ret2;rw[HR.out];exact⟨by simp;omega,rfl⟩
     ·rw[if_neg hc]at HZ
      go_wp2
      go_round
      case rel=>exact⟨3,n+x % 128 * 16384,by omega,by omega,by omega,by simp,by go_num,HZ⟩
      case measure=>simp[intOf]
    ·have hM:n<2097152:=hn
     have hor:bits .or .i64 (n:Int) ((x:Int) % 128 * 2097152)=((n+x % 128 * 2097152:Nat):Int):=Cs 3 n x 2097152 (by omega) (by decide) hM;have hst:=Dh 3 n x s h1 h2 hy;have HZ:Hid _:=hst.symm.trans hz.out;clear hst hz
     by_cases hc:x<128
     ·rw[if_pos hc]at HZ
      by_cases hc0:x=0
      ·rw[if_pos ⟨by omega,hc0⟩]at HZ
       have hb0:((x:Int) == 0)=true:=by simp[hc0]
       clear hc0;have HR:Hid (R=(0,0)):=HZ.out.symm;clear HZ;go_wp2;go_ret2;rw[HR.out];exact⟨by simp,rfl⟩
      ·rw[if_neg (by omega)]at HZ
       have hb0:((x:Int) == 0)=false:=by simp[hc0]
       have HR:Hid (R=(n+x * 2097152,4)):=by show _=_;rw[<-HZ.out]
       clear HZ;go_wp2;go_ret2;rw[HR.out];exact⟨by simp;omega,rfl⟩
     ·rw[if_neg hc]at HZ
      go_wp2
      go_round
      case rel=>exact⟨4,n+x % 128 * 2097152,by omega,by omega,by omega,by simp,by go_num,HZ⟩
      case measure=>simp[intOf]
    ·have hM:n<268435456:=hn
     have hor:bits .or .i64 (n:Int) ((x:Int) % 128 * 268435456)=((n+x % 128 * 268435456:Nat):Int):=Cs 4 n x 268435456 (by omega) (by decide) hM;have hst:=Dh 4 n x s h1 h2 hy;have HZ:Hid _:=hst.symm.trans hz.out;clear hst hz
     by_cases hc:x<128
     ·rw[if_pos hc]at HZ
      by_cases hc0:x=0
      ·rw[if_pos ⟨by omega,hc0⟩]at HZ
       have hb0:((x:Int) == 0)=true:=by simp[hc0]
       clear hc0;have HR:Hid (R=(0,0)):=HZ.out.symm;clear HZ;go_wp2;go_ret2;rw[HR.out];exact⟨by simp,rfl⟩
      ·rw[if_neg (by omega)]at HZ
       have hb0:((x:Int) == 0)=false:=by simp[hc0]
       have HR:Hid (R=(n+x * 268435456,5)):=by show _=_;rw[<-HZ.out]
       clear HZ;go_wp2;go_ret2;rw[HR.out];exact⟨by simp;omega,rfl⟩
     ·rw[if_neg hc]at HZ
      go_wp2
      go_round
      case rel=>exact⟨5,n+x % 128 * 268435456,by omega,by omega,by omega,by simp,by go_num,HZ⟩
      case measure=>simp[intOf]
   ·have e:R=(0,0):=by
     have h:=hz.out
     by_cases h5:k=5
     ·subst h5;exact h.symm
     ·rw[List.drop_eq_nil_of_le (by simp;omega)]at h
      rw[<-h];have:5-k=(4-k)+1:=by omega
      rw[this];rfl
    subst e;have hm:(5:Int)<=(k:Int):=by omega
    go_wp2;go_ret2;exact⟨by simp,rfl⟩
 ·skip
  go_enter Tryz.func188,Tryz.ntmps188;go_wp2
  go_loop [4,9] (fun x i=>∃k n:Nat,k<=s.size/\k<=5/\n<128 ^ k/\x= .int .i64 n/\i= .int .i64 k/\Hid (rnF (5-k) k n (s.data.toList.drop k)=R)) (fun _ i=>5-(intOf i).toNat)
  case atStart=>exact⟨0,0,Nat.zero_le _,by omega,by omega,rfl,rfl,HR⟩
  case round=>
   clear HR;obtain⟨k,n,hk,hk5,hn,rfl,rfl,hz⟩:=hrel
   by_cases hlt:k<s.size/\k<5
   ·obtain⟨h1,h2⟩:=hlt
    have hx:=UInt8.toNat_lt s[k];obtain⟨x,hy⟩:∃x,s[k].toNat=x:=⟨_,rfl⟩;rw[hy]at hx;have hk':k=0\/k=1\/k=2\/k=3\/k=4:=by omega
    rcases hk' with rfl|rfl|rfl|rfl|rfl
    ·have hM:n<1:=hn
     have hor:=Cs 0 n x 1 (by omega) (by decide) hM;simp only[Int.natCast_one,Int.mul_one,Nat.mul_one]at hor;have hst:=Dh 0 n x s h1 h2 hy;have HZ:Hid _:=hst.symm.trans hz.out;clear hst hz
     by_cases hc:x<128
     ·rw[if_pos hc]at HZ
      rw[if_neg (by omega)]at HZ;have HR:Hid (R=(n+x,1)):=by show _=_;rw[<-HZ.out];simp
      clear HZ;go_wp2;go_ret2;rw[HR.out];exact⟨by simp;omega,rfl⟩
     ·rw[if_neg hc]at HZ
      go_wp2
      go_round
      case rel=>exact⟨1,n+x % 128 * 1,by omega,by omega,by omega,by simp,by go_num,HZ⟩
      case measure=>simp[intOf]
    ·have hM:n<128:=hn
     have hor:bits .or .i64 (n:Int) ((x:Int) % 128 * 128)=((n+x % 128 * 128:Nat):Int):=Cs 1 n x 128 (by omega) (by decide) hM;have hst:=Dh 1 n x s h1 h2 hy;have HZ:Hid _:=hst.symm.trans hz.out;clear hst hz
     by_cases hc:x<128
     ·rw[if_pos hc]at HZ
      by_cases hc0:x=0
      ·rw[if_pos ⟨by omega,hc0⟩]at HZ
       have hb0:((x:Int) == 0)=true:=by simp[hc0]
       clear hc0;have HR:Hid (R=(0,0)):=HZ.out.symm;clear HZ;go_wp2;go_ret2;rw[HR.out];exact⟨by simp,rfl⟩
      ·rw[if_neg (by omega)]at HZ
       have hb0:((x:Int) == 0)=false:=by simp[hc0]
       have HR:Hid (R=(n+x * 128,2)):=by show _=_;rw[<-HZ.out]
       clear HZ;go_wp2;go_ret2;rw[HR.out];exact⟨by simp;omega,rfl⟩
     ·rw[if_neg hc]at HZ
      go_wp2
      go_round
      case rel=>exact⟨2,n+x % 128 * 128,by omega,by omega,by omega,by simp,by go_num,HZ⟩
      case measure=>simp[intOf]
    ·have hM:n<16384:=hn
     have hor:bits .or .i64 (n:Int) ((x:Int) % 128 * 16384)=((n+x % 128 * 16384:Nat):Int):=Cs 2 n x 16384 (by omega) (by decide) hM;have hst:=Dh 2 n x s h1 h2 hy;have HZ:Hid _:=hst.symm.trans hz.out;clear hst hz
     by_cases hc:x<128
     ·rw[if_pos hc]at HZ
      by_cases hc0:x=0
      ·rw[if_pos ⟨by omega,hc0⟩]at HZ
       have hb0:((x:Int) == 0)=true:=by simp[hc0]
       clear hc0;have HR:Hid (R=(0,0)):=HZ.out.symm;clear HZ;go_wp2;go_ret2;rw[HR.out];exact⟨by simp,rfl⟩
      ·rw[if_neg (by omega)]at HZ
       have hb0:((x:Int) == 0)=false:=by simp[hc0]
       have HR:Hid (R=(n+x * 16384,3)):=by show _=_;rw[<-HZ.out]
       clear HZ;go_wp2;go_ret2;rw[HR.out];exact⟨by simp;omega,rfl⟩
     ·rw[if_neg hc]at HZ
      go_wp2
      go_round
      case rel=>exact⟨3,n+x % 128 * 16384,by omega,by omega,by omega,by simp,by go_num,HZ⟩
      case measure=>simp[intOf]
    ·have hM:n<2097152:=hn
     have hor:bits .or .i64 (n:Int) ((x:Int) % 128 * 2097152)=((n+x % 128 * 2097152:Nat):Int):=Cs 3 n x 2097152 (by omega) (by decide) hM;have hst:=Dh 3 n x s h1 h2 hy;have HZ:Hid _:=hst.symm.trans hz.out;clear hst hz
     by_cases hc:x<128
     ·rw[if_pos hc]at HZ
      by_cases hc0:x=0
      ·rw[if_pos ⟨by omega,hc0⟩]at HZ
       have hb0:((x:Int) == 0)=true:=by simp[hc0]
       clear hc0;have HR:Hid (R=(0,0)):=HZ.out.symm;clear HZ;go_wp2;go_ret2;rw[HR.out];exact⟨by simp,rfl⟩
      ·rw[if_neg (by omega)]at HZ
       have hb0:((x:Int) == 0)=false:=by simp[hc0]
       have HR:Hid (R=(n+x * 2097152,4)):=by show _=_;rw[<-HZ.out]
       clear HZ;go_wp2;go_ret2;rw[HR.out];exact⟨by simp;omega,rfl⟩
     ·rw[if_neg hc]at HZ
      go_wp2
      go_round
      case rel=>exact⟨4,n+x % 128 * 2097152,by omega,by omega,by omega,by simp,by go_num,HZ⟩
      case measure=>simp[intOf]
    ·have hM:n<268435456:=hn
     have hor:bits .or .i64 (n:Int) ((x:Int) % 128 * 268435456)=((n+x % 128 * 268435456:Nat):Int):=Cs 4 n x 268435456 (by omega) (by decide) hM;have hst:=Dh 4 n x s h1 h2 hy;have HZ:Hid _:=hst.symm.trans hz.out;clear hst hz
     by_cases hc:x<128
     ·rw[if_pos hc]at HZ
      by_cases hc0:x=0
      ·rw[if_pos ⟨by omega,hc0⟩]at HZ
       have hb0:((x:Int) == 0)=true:=by simp[hc0]
       clear hc0;have HR:Hid (R=(0,0)):=HZ.out.symm;clear HZ;go_wp2;go_ret2;rw[HR.out];exact⟨by simp,rfl⟩
      ·rw[if_neg (by omega)]at HZ
       have hb0:((x:Int) == 0)=false:=by simp[hc0]
       have HR:Hid (R=(n+x * 268435456,5)):=by show _=_;rw[<-HZ.out]
       clear HZ;go_wp2;go_ret2;rw[HR.out];exact⟨by simp;omega,rfl⟩
     ·rw[if_neg hc]at HZ
      go_wp2
      go_round
      case rel=>exact⟨5,n+x % 128 * 268435456,by omega,by omega,by omega,by simp,by go_num,HZ⟩
      case measure=>simp[intOf]
   ·have e:R=(0,0):=by
     have h:=hz.out
     by_cases h5:k=5
     ·subst h5;exact h.symm
     ·rw[List.drop_eq_nil_of_le (by simp;omega)]at h
      rw[<-h];have:5-k=(4-k)+1:=by omega
      rw[this];rfl
    subst e;have hm:(s.size:Int)<=(k:Int):=by omega
    go_wp2;go_ret2;exact⟨by simp,rfl⟩
end
end Go.Proofs.YtihnldkgeelehaaGreatDoor
