/- StoreFinds: part 37. -/
import Derived.Test.YtihnldkgeelehaaGreatDoorF36
set_option maxRecDepth 100000
set_option maxHeartbeats 4000000
namespace Go.Proofs.YtihnldkgeelehaaGreatDoor
section
open Go.RowKit Go.Maps
def tnm:ByteArray:=⟨#[116]⟩
def S3:Col:=⟨⟨#[97]⟩,1,false,false,true⟩
def In (ib:Bool):Col:=⟨⟨#[98]⟩,2,false,true,ib⟩
def tbl (nx:Nat) (ib:Bool):Tb:=⟨1,tnm,[S3,In ib],nx⟩
def wnI (ib:Bool) (j:Nat):Bool:=if j=0 then true else if j=1 then ib else false
def wnW (j:Nat):Bool:=decide (j=1)
theorem Iy (nx:Nat) (ib:Bool) (j:Nat) (h:j<(tbl nx ib).cs.length):Lib.containsS (ixs (tbl nx ib).cs) (tbl nx ib).cs[j].nm=wnI ib j:=by
 have:j=0\/j=1:=by have:(tbl nx ib).cs.length=2:=rfl;omega
 rcases this with rfl|rfl<;>cases ib<;>rfl
theorem Ub (nx:Nat) (ib:Bool) (j:Nat) (h:j<(tbl nx ib).cs.length):(tbl nx ib).cs[j].wo=wnW j:=by
 have:j=0\/j=1:=by have:(tbl nx ib).cs.length=2:=rfl;omega
 rcases this with rfl|rfl<;>rfl
def c1 (c:Sts) (r:Rw):Sts:=c.put 1 (Dn (c.M 1) (rkP 1 r)) (c.Z 1+100)
def cI (c:Sts) (r:Rw) (q:Nat):Sts:=c.put 2 (Dn (c.M 2) (ikP 1 q r)) (c.Z 2+60)
def c2 (c:Sts) (r:Rw) (ib:Bool):Sts:=if ib then cI (cI (c1 c r) r 0) r 1 else cI (c1 c r) r 0
def cW (c:Sts) (r:Rw) (D:List Nd):Sts:=c.put 3 (InD (CN D A2 (r.id:Nat) r.b.s)) 21000
section
variable {b0 bs bc bw bp bm N N' B lc cc li ci cv nx:Nat} {c c':Sts} {ib:Bool} {ac ai av:Option Addr} {r:Rw} {w w':World} {D:List Nd}
def PuI (b0 bt bs bc bw bp:Nat) (c:Sts) (bm N B nx:Nat) (ib:Bool) (ac ai av:Option Addr) (lc cc li ci cv:Nat) (r:Rw) (w0:World) (j:Nat) (w:World):Prop:=
 Pfr b0 bs bc bw bp (if j=0 then c1 c r else if j=1 then cI (c1 c r) r 0 else c2 c r ib) bm (N+40+40 * j) B (tbl nx ib) ac ai av lc cc li ci cv r w/\Ac bt [.string tnm,.slice ac lc cc,.slice ai li ci] w/\Aa (fun b=>b=bp\/b=bm) w0 w
theorem PI {bt:Nat} {w0:World} (h:PuI b0 bt bs bc bw bp c bm N B nx ib ac ai av lc cc li ci cv r w0 0 w) (hbt:bp<bt/\bm<bt) (hok:r.Ok) (hZ:c.Z 2+120<=30000) (hN:N+5000<1000000):
  Calls Tryz.prog 71 #[.agg #[.string tnm,.slice ac lc cc,.slice ai li ci],.func (.func 125) #[] #[.pointer (some ⟨bt,0,none⟩)],.func (.func 73) #[] #[.pointer (some ⟨b0,0,none⟩),.pointer (some ⟨b0+1,0,none⟩),.pointer (some ⟨b0+2,0,none⟩)]] w fun e w'=>e= .returned .nilIface/\PuI b0 bt bs bc bw bp c bm N B nx ib ac ai av lc cc li ci cv r w0 2 w':=by
 have hl:lc=2:=h.1.ll.1.symm;have hli:=h.1.ll.2
 refine(F4 (cs:=(tbl nx ib).cs) (n:=lc) (Wn:=wnI ib) (I:=PuI b0 bt bs bc bw bp c bm N B nx ib ac ai av lc cc li ci cv r w0) (F:=fun _=>False) (ev:=0) w
  (enters_of Tryz.func125 (by kernel_rfl) rfl) (enters_of Tryz.func73 (by kernel_rfl) rfl) h.1.ll.1 (by omega) (fun j w hI=>hI.1.cr) (fun j wa wb hI hb=>⟨hI.1.below hb,hI.2.1.below hb,hI.2.2.trans (Ab hb _) (fun _ e=> .inl e)⟩) (fun j hj wa hI=> ?_) (fun j hj hw wa hI=> ?_) (fun j wa hw hI=> ?_) h).mono ?_
 ·have hnr:=hI.1.nr
  have hv:=hI.2.1;rw[<-hli]at hnr hv;have:=Ia wa (tbl nx ib).cs[j] hv hnr;rw[Iy]at this;exact this
 ·have h1:=hI.1
  have hj2:j=0\/j=1:=by omega
  rcases hj2 with rfl|rfl
  ·refine(OI h1 hok 0 (by omega) (by show c.Z 2+60<=30000;omega) (by omega)).mono ?_
   rintro e w' ⟨rfl,g1,g2⟩;exact .inl ⟨rfl,g1,hI.2.1.only g2 (fun e=>by rcases e with e|e<;>omega),hI.2.2.trans g2 (fun _ e=> .inl e)⟩
  ·have hib:ib=true:=hw
   subst hib;refine(OI h1 hok 1 (by omega) (by show c.Z 2+60+60<=30000;omega) (by omega)).mono ?_;rintro e w' ⟨rfl,g1,g2⟩;exact .inl ⟨rfl,g1,hI.2.1.only g2 (fun e=>by rcases e with e|e<;>omega),hI.2.2.trans g2 (fun _ e=> .inl e)⟩
 ·have hj2:j=0\/j=1\/2<=j:=by omega
  rcases hj2 with rfl|rfl|hj
  ·cases hw
  ·have hib:ib=false:=hw
   subst hib;exact⟨hI.1.upd (hI.1.s.mono (by omega)) (Aa.refl _ _),hI.2⟩
  ·have h1:=hI.1
   rw[if_neg (by omega),if_neg (by omega)]at h1;refine⟨?_,hI.2⟩;rw[if_neg (by omega),if_neg (by omega)];exact h1.upd (h1.s.mono (by omega)) (Aa.refl _ _)
 ·rintro e w' (⟨h1,h2⟩|⟨_,h2⟩)
  ·rw[hl]at h2 ⊢
   exact⟨h1,h2⟩
  ·exact h2.elim
theorem PG (h:Pfr b0 bs bc bw bp c bm N B (tbl nx ib) ac ai av lc cc li ci cv r w) (hD:Nts D) (hM:∀x,c.M 3 x↔InD D x) (hZ:c.Z 3<=21000) (hok:r.Ok) (hN:N+2200<1000000):
  Calls Tryz.prog 71 #[.agg #[.string tnm,.slice ac lc cc,.slice ai li ci],.func (.func 74) #[] #[],.func (.func 75) #[] #[.pointer (some ⟨b0,0,none⟩),.pointer (some ⟨b0+1,0,none⟩),.pointer (some ⟨b0+2,0,none⟩)]] w fun e w'=>Ma (fun w'=>addE D A2 (r.id:Nat) r.b.s=0/\Stw bs bc bw bp (cW c r D) bm (N+800) w'/\Aa (fun b=>b=bp\/b=bm) w w') (fun w'=>addE D A2 (r.id:Nat) r.b.s≠0/\Stw bs bc bw bp (cW c r D) bm (N+800) w'/\Aa (fun b=>b=bp\/b=bm) w w') (addE D A2 (r.id:Nat) r.b.s) e w':=by
 have hl:lc=2:=h.ll.1.symm
 refine(F4 (B:=B) (cs:=(tbl nx ib).cs) (n:=lc) (Wn:=wnW) (I:=fun j wx=>(j<=1->Pfr b0 bs bc bw bp c bm N B (tbl nx ib) ac ai av lc cc li ci cv r wx/\Aa (fun b=>b=bp\/b=bm) w wx)/\(2<=j->addE D A2 (r.id:Nat) r.b.s=0/\Pfr b0 bs bc bw bp (cW c r D) bm (N+800) B (tbl nx ib) ac ai av lc cc li ci cv r wx/\Aa (fun b=>b=bp\/b=bm) w wx)) (F:=fun w'=>addE D A2 (r.id:Nat) r.b.s≠0/\Stw bs bc bw bp (cW c r D) bm (N+800) w'/\Aa (fun b=>b=bp\/b=bm) w w') (ev:=addE D A2 (r.id:Nat) r.b.s) w
  (enters_of Tryz.func74 (by kernel_rfl) rfl) (enters_of Tryz.func75 (by kernel_rfl) rfl) h.ll.1 (by omega) (fun j wx hI=> ?_) (fun j wa wb hI hb=> ?_) (fun j hj wa hI=> ?_) (fun j hj hw wa hI=> ?_) (fun j wa hw hI=> ?_) ⟨fun _=>⟨h,Aa.refl _ _⟩,fun e=>absurd e (by omega)⟩).mono ?_
 ·rcases Nat.lt_or_ge 1 j with hj|hj
  ·exact(hI.2 hj).2.1.cr
  ·exact(hI.1 hj).1.cr
 ·exact⟨fun e=>⟨(hI.1 e).1.below hb,(hI.1 e).2.trans (Ab hb _) (fun _ e=> .inl e)⟩,fun e=>⟨(hI.2 e).1,(hI.2 e).2.1.below hb,(hI.2 e).2.2.trans (Ab hb _) (fun _ e=> .inl e)⟩⟩
 ·exact(G9 wa (tbl nx ib).cs[j]).mono (fun e w' hh=>⟨by rw[hh.1,Ub],hh.2⟩)
 ·have hj1:j=1:=by simpa [wnW]using hw
  subst hj1;obtain⟨h1,h2⟩:=hI.1 (Nat.le_refl _);refine(Tc h1 rfl hD hM hZ hok hN).mono ?_;rintro e w' ⟨he,g1,g2⟩;have g3:=h2.trans g2 (fun _ e=> .inl e)
  by_cases h0:addE D A2 (r.id:Nat) r.b.s=0
  ·refine .inl ⟨?_,fun e=>absurd e (by omega),fun _=>⟨h0,g1,g3⟩⟩
   rw[he,h0];rfl
  ·refine .inr ⟨?_,h0,g1.s,g3⟩
   rw[he,Ei h0]
 ·have hne:j≠1:=fun e=>by rw[e]at hw;cases hw
  exact⟨fun e=>hI.1 (by omega),fun e=>hI.2 (by omega)⟩
 ·rintro e w' (⟨h1,h2⟩|h2)
  ·rw[hl]at h2
   exact .inl ⟨h1,(h2.2 (Nat.le_refl _)).1,(h2.2 (Nat.le_refl _)).2.1.s,(h2.2 (Nat.le_refl _)).2.2⟩
  ·exact .inr h2
structure Cm (B:Nat) (t:Tb) (ac ai:Option Addr) (lc cc li ci:Nat) (w:World):Prop where
 cr:A8 B (.slice ac lc cc) t.cs w
 nr:Cp B (.slice ai li ci) (ixs t.cs) w
 ll:t.cs.length=lc/\(ixs t.cs).length=li
theorem Cm.below {t:Tb} (h:Cm B t ac ai lc cc li ci w) (hb:Below w.heap.size w w'):Cm B t ac ai lc cc li ci w':=⟨Ag h.cr hb,Ag h.nr hb,h.ll⟩
theorem Cm.upd {t:Tb} (h:Cm B t ac ai lc cc li ci w) (hB:bp<B/\bm<B) (ho:Aa (fun b=>b=bp\/b=bm) w w'):Cm B t ac ai lc cc li ci w':=⟨Aw h.cr ho (fun b e=>by rcases e with e|e<;>omega),Aw h.nr ho (fun b e=>by rcases e with e|e<;>omega),h.ll⟩
structure DY (av:Option Addr) (cv bp bm:Nat) (r:Rw) (w:World):Prop where
 vr:BY w av 2 r.l
 hv:∀ad,av=some ad->ad.block≠bp/\ad.block≠bm
 cv:2<=cv
theorem DY.below (h:DY av cv bp bm r w) (hb:Below w.heap.size w w'):DY av cv bp bm r w':=⟨h.vr.below hb (Nat.le_refl _),h.hv,h.cv⟩
theorem DY.upd (h:DY av cv bp bm r w) (ho:Aa (fun b=>b=bp\/b=bm) w w'):DY av cv bp bm r w':=⟨h.vr.only ho (fun ad e e2=>by have:=h.hv ad e;rcases e2 with e2|e2;exact this.1 e2;exact this.2 e2),h.hv,h.cv⟩
def No (w:World) (bs:Nat) (t:Tb) (ac ai av:Option Addr) (lc cc li ci cv:Nat) (r:Rw):World:=((w.alloc (.cells #[.pointer (some ⟨bs,0,none⟩)] 26)).alloc (.cells #[.int .i64 (t.id:Nat),.int .i64 (t.nx:Nat),.string t.nm,.slice ac lc cc,.slice ai li ci] 92)).alloc (.cells #[.int .i64 (r.id:Nat),.slice av 2 cv] 57)
theorem Pfr.new {t:Tb} (h:Stw bs bc bw bp c bm N w) (he:Cm B t ac ai lc cc li ci w) (hr:DY av cv bp bm r w) (hB:bp<B/\bm<B):Below w.heap.size w (No w bs t ac ai av lc cc li ci cv r)/\Pfr w.heap.size bs bc bw bp c bm N B t ac ai av lc cc li ci cv r (No w bs t ac ai av lc cc li ci cv r):=by
 have hb:Below w.heap.size w (No w bs t ac ai av lc cc li ci cv r):=(((Below.refl _ w).alloc (Nat.le_refl _) _).alloc (by simp) _).alloc (by simp;omega) _;have hlt:=h.lt;have e1:∀(o:Obj),(w.alloc o).heap.size=w.heap.size+1:=fun o=>World.size_alloc _ _;have x0:=Ac.new w #[.pointer (some ⟨bs,0,none⟩)] 26 (by simp);have x1:=Ac.new (w.alloc (.cells #[.pointer (some ⟨bs,0,none⟩)] 26)) #[.int .i64 (t.id:Nat),.int .i64 (t.nx:Nat),.string t.nm,.slice ac lc cc,.slice ai li ci] 92 (by simp);have x2:=Ac.new ((w.alloc (.cells #[.pointer (some ⟨bs,0,none⟩)] 26)).alloc (.cells #[.int .i64 (t.id:Nat),.int .i64 (t.nx:Nat),.string t.nm,.slice ac lc cc,.slice ai li ci] 92)) #[.int .i64 (r.id:Nat),.slice av 2 cv] 57 (by simp);rw[World.size_alloc]at x1;rw[World.size_alloc,World.size_alloc]at x2;exact⟨hb,h.below hb,(x0.below ((Below.refl _ _).alloc (Nat.le_refl _) _)).below ((Below.refl _ _).alloc (Nat.le_refl _) _),x1.below ((Below.refl _ _).alloc (Nat.le_refl _) _),x2,Ag he.cr hb,Ag he.nr hb,hr.vr.below hb (Nat.le_refl _),hB,by omega,hr.hv,hr.cv,he.ll⟩
end
section
variable {bs bc bw bp bm N B lc cc li ci cv nx:Nat} {c:Sts} {ib:Bool} {ac ai av:Option Addr} {r:Rw} {w:World} {D:List Nd}
theorem Pfr.p0 {b0:Nat} {t:Tb} (h:Pfr b0 bs bc bw bp c bm N B t ac ai av lc cc li ci cv r w):w.cell? ⟨bs,3,none⟩=some (.pointer (some ⟨c.tb 1,0,none⟩)):=h.s.v.cell 3 (by simp)
theorem M8 (h:Stw bs bc bw bp c bm N w) (he:Cm B (tbl nx ib) ac ai lc cc li ci w) (hr:DY av cv bp bm r w) (hB:bp<B/\bm<B) (hok:r.Ok) (hD:Nts D) (hM:∀x,c.M 3 x↔InD D x) (hZ1:c.Z 1+100<=30000) (hZ2:c.Z 2+120<=30000) (hZ3:c.Z 3<=21000) (hN:N+9000<1000000):
  Calls Tryz.prog 29 #[.pointer (some ⟨bs,0,none⟩),.agg #[.int .i64 1,.int .i64 (nx:Nat),.string tnm,.slice ac lc cc,.slice ai li ci],.agg #[.int .i64 (r.id:Nat),.slice av 2 cv],.string (An (Bp r.l))] w fun e w'=>Ma (fun w'=>addE D A2 (r.id:Nat) r.b.s=0/\Stw bs bc bw bp (cW (c2 c r ib) r D) bm (N+1000) w'/\Aa (fun b=>b=bp\/b=bm) w w') (fun w'=>addE D A2 (r.id:Nat) r.b.s≠0/\Stw bs bc bw bp (cW (c2 c r ib) r D) bm (N+1000) w'/\Aa (fun b=>b=bp\/b=bm) w w') (addE D A2 (r.id:Nat) r.b.s) e w':=by
 obtain⟨hb0,hp0⟩:=Pfr.new h he hr hB;obtain⟨W1,hW1⟩:∃W1,No w bs (tbl nx ib) ac ai av lc cc li ci cv r=W1:=⟨_,rfl⟩;rw[hW1]at hb0 hp0;have hW1':((w.alloc (.cells #[.pointer (some ⟨bs,0,none⟩)] 26)).alloc (.cells #[.int .i64 1,.int .i64 (nx:Nat),.string tnm,.slice ac lc cc,.slice ai li ci] 92)).alloc (.cells #[.int .i64 (r.id:Nat),.slice av 2 cv] 57)=W1:=hW1;have HP:Hid (Pfr w.heap.size bs bc bw bp c bm N B (tbl nx ib) ac ai av lc cc li ci cv r W1.drew):=hp0.below (Below.refl _ _).drew;have HB:Hid (Below w.heap.size w W1.drew):=hb0.drew;have hkp:=U5 1 hok;have HRK:Hid (∀wx,Calls Tryz.prog 70 #[.int .i64 1,.int .i64 (r.id:Nat)] wx fun e w'=>e= .returned (.string (rkP 1 r).k)/\Below wx.heap.size wx w'):=fun wx=>FL 1 r.id wx
 have HPUT:Hid (∀wx,Pfr w.heap.size bs bc bw bp c bm N B (tbl nx ib) ac ai av lc cc li ci cv r wx->Calls Tryz.prog 69 #[.pointer (some ⟨c.tb 1,0,none⟩),.string (rkP 1 r).k,.string (An (Bp r.l))] wx fun e w'=>e= .returned .nilIface/\Pfr w.heap.size bs bc bw bp (c1 c r) bm (N+40) B (tbl nx ib) ac ai av lc cc li ci cv r w'/\Aa (fun b=>b=bp\/b=bm) wx w'):=fun wx hh=>by
  refine(hh.s.put4 (q:=1) (by omega) (rkP 1 r) hkp.1 hkp.2 hZ1 (by omega)).mono ?_;rintro e w' ⟨h1,h2,h3⟩;exact⟨h1,hh.upd h2 h3,h3⟩
 obtain⟨K,hK⟩:∃K,(rkP 1 r).k=K:=⟨_,rfl⟩;obtain⟨It,hIt⟩:∃It,An (Bp r.l)=It:=⟨_,rfl⟩;rw[hK]at HRK HPUT;rw[hIt]at HPUT ⊢;have q0:=hp0.c1.1;have D0:Hid (W1.drew.cell? ⟨w.heap.size,0,none⟩=some (.pointer (some ⟨bs,0,none⟩))/\W1.drew.cell? ⟨bs,3,none⟩=some (.pointer (some ⟨c.tb 1,0,none⟩))/\W1.drew.cell? ⟨w.heap.size+1,0,none⟩=some (.int .i64 1)/\W1.drew.cell? ⟨w.heap.size+2,0,none⟩=some (.int .i64 (r.id:Nat))):=⟨HP.out.c1.1,HP.out.p0,HP.out.c1.2.1,HP.out.c1.2.2.2.2.2.2.1⟩;have hltb:=h.lt;have HOK:Hid _:=hok;have HND:Hid _:=hD;have HM:Hid _:=hM;clear h he hr hp0 hb0 hkp hK hIt q0 hW1 hok hD hM;go_enter Tryz.func29,Tryz.ntmps29;go_wp2_with fail
 go_region_held3 (fun wx=>wx.cell? ⟨w.heap.size,0,none⟩=some (.pointer (some ⟨bs,0,none⟩))/\wx.cell? ⟨bs,3,none⟩=some (.pointer (some ⟨c.tb 1,0,none⟩))/\wx.cell? ⟨w.heap.size+1,0,none⟩=some (.int .i64 1)/\wx.cell? ⟨w.heap.size+2,0,none⟩=some (.int .i64 (r.id:Nat))) (first|exact D0.out|exact D1.out|exact D2.out) (first|(go_at_call 70;refine(show Calls _ _ _ _ _ from HRK.out _).mono ?_;rintro _ w3 ⟨rfl,hb3⟩;have HB3:Hid (Below w.heap.size w w3):=HB.out.trans (hb3.mono HB.out.size);have HP3:Hid (Pfr w.heap.size bs bc bw bp c bm N B (tbl nx ib) ac ai av lc cc li ci cv r w3):=HP.out.below hb3;have D1:Hid (w3.cell? ⟨w.heap.size,0,none⟩=some (.pointer (some ⟨bs,0,none⟩))/\w3.cell? ⟨bs,3,none⟩=some (.pointer (some ⟨c.tb 1,0,none⟩))/\w3.cell? ⟨w.heap.size+1,0,none⟩=some (.int .i64 1)/\w3.cell? ⟨w.heap.size+2,0,none⟩=some (.int .i64 (r.id:Nat))):=⟨HP3.out.c1.1,HP3.out.p0,HP3.out.c1.2.1,HP3.out.c1.2.2.2.2.2.2.1⟩;clear hb3)|(go_at_call 69;refine(show Calls _ _ _ _ _ from HPUT.out _ HP3.out).mono ?_;rintro _ w4 ⟨rfl,hp4,ho4⟩;have HP4:Hid (Pfr w.heap.size bs bc bw bp (c1 c r) bm (N+40) B (tbl nx ib) ac ai av lc cc li ci cv r w4):=hp4;have HO4:Hid (Aa (fun b=>b=bp\/b=bm) w w4):=(Ab HB3.out _).trans ho4 (fun _ e=> .inl e);have D2:Hid (w4.cell? ⟨w.heap.size,0,none⟩=some (.pointer (some ⟨bs,0,none⟩))/\w4.cell? ⟨bs,3,none⟩=some (.pointer (some ⟨c.tb 1,0,none⟩))/\w4.cell? ⟨w.heap.size+1,0,none⟩=some (.int .i64 1)/\w4.cell? ⟨w.heap.size+2,0,none⟩=some (.int .i64 (r.id:Nat))):=⟨HP4.out.c1.1,HP4.out.p0,HP4.out.c1.2.1,HP4.out.c1.2.2.2.2.2.2.1⟩;clear hp4 ho4))
 clear hW1';have E0:Hid (w4.drew.cell? ⟨w.heap.size+1,2,none⟩=some (.string tnm)/\w4.drew.cell? ⟨w.heap.size+1,3,none⟩=some (.slice ac lc cc)/\w4.drew.cell? ⟨w.heap.size+1,4,none⟩=some (.slice ai li ci)):=⟨HP4.out.c1.2.2.2.1,HP4.out.c1.2.2.2.2.1,HP4.out.c1.2.2.2.2.2.1⟩;have hmf:∀(fn:Fn) (first cap:Array Value) (w:World),(Instr.makeFunc fn first cap).run Tryz.prog w= .ok (.func fn first cap) w:=fun _ _ _ _=>rfl
 have HS4:Hid (w.heap.size+3<=w4.heap.size):=by
  have:=HP4.out.x2.lt;show _<=_;omega
 have HEI:Hid (∀wx,PuI w.heap.size w4.drew.heap.size bs bc bw bp c bm N B nx ib ac ai av lc cc li ci cv r w4.drew 0 wx->Calls Tryz.prog 71 #[.agg #[.string tnm,.slice ac lc cc,.slice ai li ci],.func (.func 125) #[] #[.pointer (some ⟨w4.drew.heap.size,0,none⟩)],.func (.func 73) #[] #[.pointer (some ⟨w.heap.size,0,none⟩),.pointer (some ⟨w.heap.size+1,0,none⟩),.pointer (some ⟨w.heap.size+2,0,none⟩)]] wx fun e w'=>e= .returned .nilIface/\PuI w.heap.size w4.drew.heap.size bs bc bw bp c bm N B nx ib ac ai av lc cc li ci cv r w4.drew 2 w'):=fun wx hI=>PI hI (by have:=HS4.out;show bp<w4.heap.size/\bm<w4.heap.size;omega) HOK.out hZ2 (by omega)
 have HP5:Hid (PuI w.heap.size w4.drew.heap.size bs bc bw bp c bm N B nx ib ac ai av lc cc li ci cv r w4.drew 0 (w4.drew.alloc (.cells #[.string tnm,.slice ac lc cc,.slice ai li ci] 87))):=
  ⟨HP4.out.below ((Below.refl _ w4).drew.alloc (Nat.le_refl _) _),Ac.new w4.drew #[.string tnm,.slice ac lc cc,.slice ai li ci] 87 (by simp),Ab ((Below.refl _ _).alloc (Nat.le_refl _) _) _⟩
 clear D0 D1 D2;go_wp2_with fail
 go_region_held3 (fun wx=>wx.cell? ⟨w.heap.size+1,2,none⟩=some (.string tnm)/\wx.cell? ⟨w.heap.size+1,3,none⟩=some (.slice ac lc cc)/\wx.cell? ⟨w.heap.size+1,4,none⟩=some (.slice ai li ci)) (first|exact E0.out|exact E1.out|exact E2.out) (first|(go_at_call 72;refine(GA _ _ _ _ _ _ _ _).mono ?_;rintro _ w5 ⟨rfl,hw5⟩;have HP5':Hid (PuI w.heap.size w4.drew.heap.size bs bc bw bp c bm N B nx ib ac ai av lc cc li ci cv r w4.drew 0 w5):=(show PuI w.heap.size w4.drew.heap.size bs bc bw bp c bm N B nx ib ac ai av lc cc li ci cv r w4.drew 0 w5 by rw[hw5];exact HP5.out);have E1:Hid (w5.cell? ⟨w.heap.size+1,2,none⟩=some (.string tnm)/\w5.cell? ⟨w.heap.size+1,3,none⟩=some (.slice ac lc cc)/\w5.cell? ⟨w.heap.size+1,4,none⟩=some (.slice ai li ci)):=⟨HP5'.out.1.c1.2.2.2.1,HP5'.out.1.c1.2.2.2.2.1,HP5'.out.1.c1.2.2.2.2.2.1⟩;clear hw5)|(go_at_call 71;refine(show Calls _ _ _ _ _ from HEI.out _ HP5'.out).mono ?_;rintro _ w6 ⟨rfl,hp6⟩;have HP6:Hid (PuI w.heap.size w4.drew.heap.size bs bc bw bp c bm N B nx ib ac ai av lc cc li ci cv r w4.drew 2 w6):=hp6;have E2:Hid (w6.cell? ⟨w.heap.size+1,2,none⟩=some (.string tnm)/\w6.cell? ⟨w.heap.size+1,3,none⟩=some (.slice ac lc cc)/\w6.cell? ⟨w.heap.size+1,4,none⟩=some (.slice ai li ci)):=⟨HP6.out.1.c1.2.2.2.1,HP6.out.1.c1.2.2.2.2.1,HP6.out.1.c1.2.2.2.2.2.1⟩;clear hp6))
 all_goals
  have HP7:Hid (Pfr w.heap.size bs bc bw bp (c2 c r ib) bm (N+120) B (tbl nx ib) ac ai av lc cc li ci cv r w6):=HP6.out.1;have HO7:Hid (Aa (fun b=>b=bp\/b=bm) w w6):=(HO4.out.trans (Ab (Below.refl _ w4).drew _) (fun _ e=> .inl e)).trans HP6.out.2.2 (fun _ e=> .inl e);have q2:=HP7.out.c1.2.2.2.1;have q3:=HP7.out.c1.2.2.2.2.1;have q4:=HP7.out.c1.2.2.2.2.2.1
  have HM2:Hid (∀x,(c2 c r ib).M 3 x↔InD D x):=fun x=>by
   have:(c2 c r ib).M 3=c.M 3:=by unfold c2;cases ib<;>rfl
   rw[this];exact HM.out x
  have hz3:(c2 c r ib).Z 3<=21000:=by
   have:(c2 c r ib).Z 3=c.Z 3:=by unfold c2;cases ib<;>rfl
   rw[this];exact hZ3
  have HEW:Hid _:=PG HP7.out HND.out HM2.out hz3 HOK.out (by omega);clear E0 E1 E2;go_wp2_with fail;refine(show Calls _ _ _ _ _ from HEW.out).mono ?_;rintro _ w8 (⟨rfl,h80,h81,h82⟩|⟨rfl,h80,h81,h82⟩)
  ·have H8:Hid (addE D A2 (r.id:Nat) r.b.s=0/\Stw bs bc bw bp (cW (c2 c r ib) r D) bm (N+1000) w8/\Aa (fun b=>b=bp\/b=bm) w w8):=⟨h80,h81.mono (by omega),HO7.out.trans h82 (fun _ e=> .inl e)⟩
   clear h80 h81 h82 q2 q3 q4 HEW;go_wp2;go_ret;exact .inl ⟨rfl,H8.out⟩
  ·have H8:Hid (addE D A2 (r.id:Nat) r.b.s≠0/\Stw bs bc bw bp (cW (c2 c r ib) r D) bm (N+1000) w8/\Aa (fun b=>b=bp\/b=bm) w w8):=⟨h80,h81.mono (by omega),HO7.out.trans h82 (fun _ e=> .inl e)⟩
   clear h80 h81 h82 q2 q3 q4 HEW;go_wp2;go_ret;exact .inr ⟨rfl,H8.out⟩
end
def d1 (c:Sts) (r:Rw):Sts:=c.put 1 (EN (c.M 1) (rkP 1 r)) (c.Z 1)
def dI (c:Sts) (r:Rw) (q:Nat):Sts:=c.put 2 (EN (c.M 2) (ikP 1 q r)) (c.Z 2)
def d2 (c:Sts) (r:Rw) (ib:Bool):Sts:=if ib then dI (dI (d1 c r) r 0) r 1 else dI (d1 c r) r 0
def dW (c:Sts) (r:Rw) (D:List Nd):Sts:=c.put 3 (InD (DT D A2 (r.id:Nat) r.b.s)) 21000
theorem Jz (t c id:Nat) (x:Vl):(ikB t c id x).data.toList.take 3=Av t 2++Av c 1:=by
 unfold ikB;rw[A0,List.append_assoc,List.take_left' (by simp[Ay])]
theorem UY (r:Rw):ikP 1 1 r≠ikP 1 0 r:=fun e=>by
 have h1:=congrArg (fun p:Pr=>p.k.data.toList.take 3) e;simp only[ikP,Jz]at h1;revert h1;decide
section
variable {b0 bs bc bw bp bm N N' B lc cc li ci cv nx:Nat} {c c':Sts} {ib:Bool} {ac ai av:Option Addr} {r:Rw} {w w':World} {D:List Nd}
def TaI (b0 bt bs bc bw bp:Nat) (c:Sts) (bm N B nx:Nat) (ib:Bool) (ac ai av:Option Addr) (lc cc li ci cv:Nat) (r:Rw) (w0:World) (j:Nat) (w:World):Prop:=
 Pfr b0 bs bc bw bp (if j=0 then d1 c r else if j=1 then dI (d1 c r) r 0 else d2 c r ib) bm (N+40+40 * j) B (tbl nx ib) ac ai av lc cc li ci cv r w/\Ac bt [.string tnm,.slice ac lc cc,.slice ai li ci] w/\Aa (fun b=>b=bp\/b=bm) w0 w
theorem N4 {bt:Nat} {w0:World} (h:TaI b0 bt bs bc bw bp c bm N B nx ib ac ai av lc cc li ci cv r w0 0 w) (hbt:bp<bt/\bm<bt) (hok:r.Ok) (hm0:c.M 2 (ikP 1 0 r)) (hm1:ib=true->c.M 2 (ikP 1 1 r)) (hN:N+5000<1000000):
  Calls Tryz.prog 71 #[.agg #[.string tnm,.slice ac lc cc,.slice ai li ci],.func (.func 125) #[] #[.pointer (some ⟨bt,0,none⟩)],.func (.func 80) #[] #[.pointer (some ⟨b0+1,0,none⟩),.pointer (some ⟨b0+2,0,none⟩),.pointer (some ⟨b0,0,none⟩)]] w fun e w'=>e= .returned .nilIface/\TaI b0 bt bs bc bw bp c bm N B nx ib ac ai av lc cc li ci cv r w0 2 w':=by
 have hl:lc=2:=h.1.ll.1.symm;have hli:=h.1.ll.2
 refine(F4 (cs:=(tbl nx ib).cs) (n:=lc) (Wn:=wnI ib) (I:=TaI b0 bt bs bc bw bp c bm N B nx ib ac ai av lc cc li ci cv r w0) (F:=fun _=>False) (ev:=0) w
  (enters_of Tryz.func125 (by kernel_rfl) rfl) (enters_of Tryz.func80 (by kernel_rfl) rfl) h.1.ll.1 (by omega) (fun j w hI=>hI.1.cr) (fun j wa wb hI hb=>⟨hI.1.below hb,hI.2.1.below hb,hI.2.2.trans (Ab hb _) (fun _ e=> .inl e)⟩) (fun j hj wa hI=> ?_) (fun j hj hw wa hI=> ?_) (fun j wa hw hI=> ?_) h).mono ?_
 ·have hnr:=hI.1.nr
  have hv:=hI.2.1;rw[<-hli]at hnr hv;have:=Ia wa (tbl nx ib).cs[j] hv hnr;rw[Iy]at this;exact this
 ·have h1:=hI.1
  have hj2:j=0\/j=1:=by omega
  rcases hj2 with rfl|rfl
  ·refine(Mj h1 hok 0 (by omega) hm0 (by omega)).mono ?_
   rintro e w' ⟨rfl,g1,g2⟩;exact .inl ⟨rfl,g1,hI.2.1.only g2 (fun e=>by rcases e with e|e<;>omega),hI.2.2.trans g2 (fun _ e=> .inl e)⟩
  ·have hib:ib=true:=hw
   subst hib;refine(Mj h1 hok 1 (by omega) ⟨hm1 rfl,UY r⟩ (by omega)).mono ?_;rintro e w' ⟨rfl,g1,g2⟩;exact .inl ⟨rfl,g1,hI.2.1.only g2 (fun e=>by rcases e with e|e<;>omega),hI.2.2.trans g2 (fun _ e=> .inl e)⟩
 ·have hj2:j=0\/j=1\/2<=j:=by omega
  rcases hj2 with rfl|rfl|hj
  ·cases hw
  ·have hib:ib=false:=hw
   subst hib;exact⟨hI.1.upd (hI.1.s.mono (by omega)) (Aa.refl _ _),hI.2⟩
  ·have h1:=hI.1
   rw[if_neg (by omega),if_neg (by omega)]at h1;refine⟨?_,hI.2⟩;rw[if_neg (by omega),if_neg (by omega)];exact h1.upd (h1.s.mono (by omega)) (Aa.refl _ _)
 ·rintro e w' (⟨h1,h2⟩|⟨_,h2⟩)
  ·rw[hl]at h2 ⊢
   exact⟨h1,h2⟩
  ·exact h2.elim
theorem N3 (h:Pfr b0 bs bc bw bp c bm N B (tbl nx ib) ac ai av lc cc li ci cv r w) (hD:Nts D) (hM:∀x,c.M 3 x↔InD D x) (hZ:c.Z 3<=21000) (hok:r.Ok) (hN:N+2200<1000000):
  Calls Tryz.prog 71 #[.agg #[.string tnm,.slice ac lc cc,.slice ai li ci],.func (.func 74) #[] #[],.func (.func 82) #[] #[.pointer (some ⟨b0,0,none⟩),.pointer (some ⟨b0+1,0,none⟩),.pointer (some ⟨b0+2,0,none⟩)]] w fun e w'=>e= .returned .nilIface/\Stw bs bc bw bp (dW c r D) bm (N+2000) w'/\Aa (fun b=>b=bp\/b=bm) w w':=by
 have hl:lc=2:=h.ll.1.symm
 refine(F4 (B:=B) (cs:=(tbl nx ib).cs) (n:=lc) (Wn:=wnW) (I:=fun j wx=>(j<=1->Pfr b0 bs bc bw bp c bm N B (tbl nx ib) ac ai av lc cc li ci cv r wx/\Aa (fun b=>b=bp\/b=bm) w wx)/\(2<=j->Pfr b0 bs bc bw bp (dW c r D) bm (N+2000) B (tbl nx ib) ac ai av lc cc li ci cv r wx/\Aa (fun b=>b=bp\/b=bm) w wx)) (F:=fun _=>False) (ev:=0) w
  (enters_of Tryz.func74 (by kernel_rfl) rfl) (enters_of Tryz.func82 (by kernel_rfl) rfl) h.ll.1 (by omega) (fun j wx hI=> ?_) (fun j wa wb hI hb=> ?_) (fun j hj wa hI=> ?_) (fun j hj hw wa hI=> ?_) (fun j wa hw hI=> ?_) ⟨fun _=>⟨h,Aa.refl _ _⟩,fun e=>absurd e (by omega)⟩).mono ?_
 ·rcases Nat.lt_or_ge 1 j with hj|hj
  ·exact(hI.2 hj).1.cr
  ·exact(hI.1 hj).1.cr
 ·exact⟨fun e=>⟨(hI.1 e).1.below hb,(hI.1 e).2.trans (Ab hb _) (fun _ e=> .inl e)⟩,fun e=>⟨(hI.2 e).1.below hb,(hI.2 e).2.trans (Ab hb _) (fun _ e=> .inl e)⟩⟩
 ·exact(G9 wa (tbl nx ib).cs[j]).mono (fun e w' hh=>⟨by rw[hh.1,Ub],hh.2⟩)
 ·have hj1:j=1:=by simpa [wnW]using hw
  subst hj1;obtain⟨h1,h2⟩:=hI.1 (Nat.le_refl _);refine(Rc h1 rfl hD hM hZ hok hN).mono ?_;rintro e w' ⟨he,g1,g2⟩;have g3:=h2.trans g2 (fun _ e=> .inl e);exact .inl ⟨he,fun e=>absurd e (by omega),fun _=>⟨g1,g3⟩⟩
 ·have hne:j≠1:=fun e=>by rw[e]at hw;cases hw
  exact⟨fun e=>hI.1 (by omega),fun e=>hI.2 (by omega)⟩
 ·rintro e w' (⟨h1,h2⟩|h2)
  ·rw[hl]at h2
   exact⟨h1,(h2.2 (Nat.le_refl _)).1.s,(h2.2 (Nat.le_refl _)).2⟩
  ·exact h2.2.elim
theorem Ko (h:Stw bs bc bw bp c bm N w) (he:Cm B (tbl nx ib) ac ai lc cc li ci w) (hr:DY av cv bp bm r w) (hB:bp<B/\bm<B) (hok:r.Ok) (hD:Nts D) (hM:∀x,c.M 3 x↔InD D x) (hm:c.M 1 (rkP 1 r)) (hm0:c.M 2 (ikP 1 0 r)) (hm1:ib=true->c.M 2 (ikP 1 1 r)) (hZ3:c.Z 3<=21000) (hN:N+9000<1000000):
  Calls Tryz.prog 31 #[.pointer (some ⟨bs,0,none⟩),.agg #[.int .i64 1,.int .i64 (nx:Nat),.string tnm,.slice ac lc cc,.slice ai li ci],.agg #[.int .i64 (r.id:Nat),.slice av 2 cv]] w fun e w'=>e= .returned .nilIface/\Stw bs bc bw bp (dW (d2 c r ib) r D) bm (N+2200) w'/\Aa (fun b=>b=bp\/b=bm) w w':=by
 obtain⟨hb0,hp0⟩:=Pfr.new h he hr hB;obtain⟨W1,hW1⟩:∃W1,No w bs (tbl nx ib) ac ai av lc cc li ci cv r=W1:=⟨_,rfl⟩;rw[hW1]at hb0 hp0;have hW1':((w.alloc (.cells #[.pointer (some ⟨bs,0,none⟩)] 26)).alloc (.cells #[.int .i64 1,.int .i64 (nx:Nat),.string tnm,.slice ac lc cc,.slice ai li ci] 92)).alloc (.cells #[.int .i64 (r.id:Nat),.slice av 2 cv] 57)=W1:=hW1;have HP:Hid (Pfr w.heap.size bs bc bw bp c bm N B (tbl nx ib) ac ai av lc cc li ci cv r W1.drew):=hp0.below (Below.refl _ _).drew;have HB:Hid (Below w.heap.size w W1.drew):=hb0.drew;have HRK:Hid (∀wx,Calls Tryz.prog 70 #[.int .i64 1,.int .i64 (r.id:Nat)] wx fun e w'=>e= .returned (.string (rkP 1 r).k)/\Below wx.heap.size wx w'):=fun wx=>FL 1 r.id wx
 have HDRP:Hid (∀wx,Pfr w.heap.size bs bc bw bp c bm N B (tbl nx ib) ac ai av lc cc li ci cv r wx->Calls Tryz.prog 79 #[.pointer (some ⟨c.tb 1,0,none⟩),.string (rkP 1 r).k] wx fun e w'=>e= .returned .nilIface/\Pfr w.heap.size bs bc bw bp (d1 c r) bm (N+40) B (tbl nx ib) ac ai av lc cc li ci cv r w'/\Aa (fun b=>b=bp\/b=bm) wx w'):=fun wx hh=>by
  refine(hh.s.drop4 (q:=1) (by omega) (rkP 1 r) hm (by omega)).mono ?_;rintro e w' ⟨h1,h2,h3⟩;exact⟨h1,hh.upd h2 h3,h3⟩
 obtain⟨K,hK⟩:∃K,(rkP 1 r).k=K:=⟨_,rfl⟩;rw[hK]at HRK HDRP;have q0:=hp0.c1.1;have D0:Hid (W1.drew.cell? ⟨w.heap.size,0,none⟩=some (.pointer (some ⟨bs,0,none⟩))/\W1.drew.cell? ⟨bs,3,none⟩=some (.pointer (some ⟨c.tb 1,0,none⟩))/\W1.drew.cell? ⟨w.heap.size+1,0,none⟩=some (.int .i64 1)/\W1.drew.cell? ⟨w.heap.size+2,0,none⟩=some (.int .i64 (r.id:Nat))):=⟨HP.out.c1.1,HP.out.p0,HP.out.c1.2.1,HP.out.c1.2.2.2.2.2.2.1⟩;have hltb:=h.lt;have HOK:Hid _:=hok;have HND:Hid _:=hD;have HM:Hid _:=hM;have HM0:Hid _:=hm0;have HM1:Hid _:=hm1;clear h he hr hp0 hb0 hK q0 hW1 hm hok hD hM hm0 hm1;go_enter Tryz.func31,Tryz.ntmps31;go_wp2_with fail
 go_region_held3 (fun wx=>wx.cell? ⟨w.heap.size,0,none⟩=some (.pointer (some ⟨bs,0,none⟩))/\wx.cell? ⟨bs,3,none⟩=some (.pointer (some ⟨c.tb 1,0,none⟩))/\wx.cell? ⟨w.heap.size+1,0,none⟩=some (.int .i64 1)/\wx.cell? ⟨w.heap.size+2,0,none⟩=some (.int .i64 (r.id:Nat))) (first|exact D0.out|exact D1.out|exact D2.out) (first|(go_at_call 70;refine(show Calls _ _ _ _ _ from HRK.out _).mono ?_;rintro _ w3 ⟨rfl,hb3⟩;have HB3:Hid (Below w.heap.size w w3):=HB.out.trans (hb3.mono HB.out.size);have HP3:Hid (Pfr w.heap.size bs bc bw bp c bm N B (tbl nx ib) ac ai av lc cc li ci cv r w3):=HP.out.below hb3;have D1:Hid (w3.cell? ⟨w.heap.size,0,none⟩=some (.pointer (some ⟨bs,0,none⟩))/\w3.cell? ⟨bs,3,none⟩=some (.pointer (some ⟨c.tb 1,0,none⟩))/\w3.cell? ⟨w.heap.size+1,0,none⟩=some (.int .i64 1)/\w3.cell? ⟨w.heap.size+2,0,none⟩=some (.int .i64 (r.id:Nat))):=⟨HP3.out.c1.1,HP3.out.p0,HP3.out.c1.2.1,HP3.out.c1.2.2.2.2.2.2.1⟩;clear hb3)|(go_at_call 79;refine(show Calls _ _ _ _ _ from HDRP.out _ HP3.out).mono ?_;rintro _ w4 ⟨rfl,hp4,ho4⟩;have HP4:Hid (Pfr w.heap.size bs bc bw bp (d1 c r) bm (N+40) B (tbl nx ib) ac ai av lc cc li ci cv r w4):=hp4;have HO4:Hid (Aa (fun b=>b=bp\/b=bm) w w4):=(Ab HB3.out _).trans ho4 (fun _ e=> .inl e);have D2:Hid (w4.cell? ⟨w.heap.size,0,none⟩=some (.pointer (some ⟨bs,0,none⟩))/\w4.cell? ⟨bs,3,none⟩=some (.pointer (some ⟨c.tb 1,0,none⟩))/\w4.cell? ⟨w.heap.size+1,0,none⟩=some (.int .i64 1)/\w4.cell? ⟨w.heap.size+2,0,none⟩=some (.int .i64 (r.id:Nat))):=⟨HP4.out.c1.1,HP4.out.p0,HP4.out.c1.2.1,HP4.out.c1.2.2.2.2.2.2.1⟩;clear hp4 ho4))
 clear hW1';have E0:Hid (w4.drew.cell? ⟨w.heap.size+1,2,none⟩=some (.string tnm)/\w4.drew.cell? ⟨w.heap.size+1,3,none⟩=some (.slice ac lc cc)/\w4.drew.cell? ⟨w.heap.size+1,4,none⟩=some (.slice ai li ci)):=⟨HP4.out.c1.2.2.2.1,HP4.out.c1.2.2.2.2.1,HP4.out.c1.2.2.2.2.2.1⟩;have hmf:∀(fn:Fn) (first cap:Array Value) (w:World),(Instr.makeFunc fn first cap).run Tryz.prog w= .ok (.func fn first cap) w:=fun _ _ _ _=>rfl
 have HS4:Hid (w.heap.size+3<=w4.heap.size):=by
  have:=HP4.out.x2.lt;show _<=_;omega
 have HEI:Hid (∀wx,TaI w.heap.size w4.drew.heap.size bs bc bw bp c bm N B nx ib ac ai av lc cc li ci cv r w4.drew 0 wx->Calls Tryz.prog 71 #[.agg #[.string tnm,.slice ac lc cc,.slice ai li ci],.func (.func 125) #[] #[.pointer (some ⟨w4.drew.heap.size,0,none⟩)],.func (.func 80) #[] #[.pointer (some ⟨w.heap.size+1,0,none⟩),.pointer (some ⟨w.heap.size+2,0,none⟩),.pointer (some ⟨w.heap.size,0,none⟩)]] wx fun e w'=>e= .returned .nilIface/\TaI w.heap.size w4.drew.heap.size bs bc bw bp c bm N B nx ib ac ai av lc cc li ci cv r w4.drew 2 w'):=fun wx hI=>N4 hI (by have:=HS4.out;show bp<w4.heap.size/\bm<w4.heap.size;omega) HOK.out HM0.out HM1.out (by omega)
 have HP5:Hid (TaI w.heap.size w4.drew.heap.size bs bc bw bp c bm N B nx ib ac ai av lc cc li ci cv r w4.drew 0 (w4.drew.alloc (.cells #[.string tnm,.slice ac lc cc,.slice ai li ci] 87))):=
  ⟨HP4.out.below ((Below.refl _ w4).drew.alloc (Nat.le_refl _) _),Ac.new w4.drew #[.string tnm,.slice ac lc cc,.slice ai li ci] 87 (by simp),Ab ((Below.refl _ _).alloc (Nat.le_refl _) _) _⟩
 clear D0 D1 D2;go_wp2_with fail
 go_region_held3 (fun wx=>wx.cell? ⟨w.heap.size+1,2,none⟩=some (.string tnm)/\wx.cell? ⟨w.heap.size+1,3,none⟩=some (.slice ac lc cc)/\wx.cell? ⟨w.heap.size+1,4,none⟩=some (.slice ai li ci)) (first|exact E0.out|exact E1.out|exact E2.out) (first|(go_at_call 72;refine(GA _ _ _ _ _ _ _ _).mono ?_;rintro _ w5 ⟨rfl,hw5⟩;have HP5':Hid (TaI w.heap.size w4.drew.heap.size bs bc bw bp c bm N B nx ib ac ai av lc cc li ci cv r w4.drew 0 w5):=(show TaI w.heap.size w4.drew.heap.size bs bc bw bp c bm N B nx ib ac ai av lc cc li ci cv r w4.drew 0 w5 by rw[hw5];exact HP5.out);have E1:Hid (w5.cell? ⟨w.heap.size+1,2,none⟩=some (.string tnm)/\w5.cell? ⟨w.heap.size+1,3,none⟩=some (.slice ac lc cc)/\w5.cell? ⟨w.heap.size+1,4,none⟩=some (.slice ai li ci)):=⟨HP5'.out.1.c1.2.2.2.1,HP5'.out.1.c1.2.2.2.2.1,HP5'.out.1.c1.2.2.2.2.2.1⟩;clear hw5)|(go_at_call 71;refine(show Calls _ _ _ _ _ from HEI.out _ HP5'.out).mono ?_;rintro _ w6 ⟨rfl,hp6⟩;have HP6:Hid (TaI w.heap.size w4.drew.heap.size bs bc bw bp c bm N B nx ib ac ai av lc cc li ci cv r w4.drew 2 w6):=hp6;have E2:Hid (w6.cell? ⟨w.heap.size+1,2,none⟩=some (.string tnm)/\w6.cell? ⟨w.heap.size+1,3,none⟩=some (.slice ac lc cc)/\w6.cell? ⟨w.heap.size+1,4,none⟩=some (.slice ai li ci)):=⟨HP6.out.1.c1.2.2.2.1,HP6.out.1.c1.2.2.2.2.1,HP6.out.1.c1.2.2.2.2.2.1⟩;clear hp6))
 all_goals
  have HP7:Hid (Pfr w.heap.size bs bc bw bp (d2 c r ib) bm (N+120) B (tbl nx ib) ac ai av lc cc li ci cv r w6):=HP6.out.1;have HO7:Hid (Aa (fun b=>b=bp\/b=bm) w w6):=(HO4.out.trans (Ab (Below.refl _ w4).drew _) (fun _ e=> .inl e)).trans HP6.out.2.2 (fun _ e=> .inl e);have q2:=HP7.out.c1.2.2.2.1;have q3:=HP7.out.c1.2.2.2.2.1;have q4:=HP7.out.c1.2.2.2.2.2.1
  have HM2:Hid (∀x,(d2 c r ib).M 3 x↔InD D x):=fun x=>by
   have:(d2 c r ib).M 3=c.M 3:=by unfold d2;cases ib<;>rfl
   rw[this];exact HM.out x
  have hz3:(d2 c r ib).Z 3<=21000:=by
   have:(d2 c r ib).Z 3=c.Z 3:=by unfold d2;cases ib<;>rfl
   rw[this];exact hZ3
  have HEW:Hid _:=N3 HP7.out HND.out HM2.out hz3 HOK.out (by omega);clear E0 E1 E2;go_wp2_with fail;refine(show Calls _ _ _ _ _ from HEW.out).mono ?_;rintro _ w8 ⟨rfl,h81,h82⟩;have H8:Hid (Stw bs bc bw bp (dW (d2 c r ib) r D) bm (N+2200) w8/\Aa (fun b=>b=bp\/b=bm) w w8):=⟨h81.mono (by omega),HO7.out.trans h82 (fun _ e=> .inl e)⟩;clear h81 h82 q2 q3 q4 HEW;go_wp2;go_ret;exact⟨rfl,H8.out⟩
end
def ntR (r:Rw):List Nd:=BE A2 r.id 0 (Ah r.b.s.data.toList)
def Fg (r:Rw):List Rw->List Rw
 | []=>[r]
 |q::l=>if r.id<q.id then r::q::l else q::Fg r l
def Hf (i:Nat) (R:List Rw):List Rw:=R.filter (fun q=>decide (q.id≠i))
theorem Hc (r:Rw):∀R:List Rw,(Fg r R).Perm (r::R)
 | []=>List.Perm.refl _
 |q::l=>by
  unfold Fg;split
  ·exact List.Perm.refl _
  ·exact((Hc r l).cons q).trans (List.Perm.swap r q l)
theorem BN {r x:Rw} {R:List Rw}:x∈Fg r R↔x=r\/x∈R:=by
 rw[(Hc r R).mem_iff,List.mem_cons]
theorem H9 {r:Rw}:∀ {R:List Rw},R.Pairwise (fun a b=>a.id<b.id)->(∀q∈R,q.id≠r.id)->(Fg r R).Pairwise (fun a b=>a.id<b.id)
 | [],_,_=>by simp[Fg]
 |q::l,h,hn=>by
  rw[List.pairwise_cons]at h;unfold Fg;split
  ·rename_i hlt
   refine List.Pairwise.cons (fun y hy=> ?_) (List.pairwise_cons.2 h);rcases List.mem_cons.1 hy with rfl|hy
   ·exact hlt
   ·exact Nat.lt_trans hlt (h.1 y hy)
  ·rename_i hlt
   refine List.Pairwise.cons (fun y hy=> ?_) (H9 h.2 (fun x hx=>hn x (by simp[hx])));rcases BN.1 hy with rfl|hy
   ·have:=hn q (by simp);omega
   ·exact h.1 y hy
theorem Dq {i:Nat} {x:Rw} {R:List Rw}:x∈Hf i R↔x∈R/\x.id≠i:=by unfold Hf;rw[List.mem_filter];simp
structure StD (c:Sts) (k:Nat) (R:List Rw) (nx:Nat) (ib:Bool) (D:List Nd):Prop where
 m0:∀x,c.M 0 x↔x∈[tbl nx ib].flatMap Tb.prs
 m1:∀x,c.M 1 x↔∃r∈R,x=rkP 1 r
 m2:∀x,c.M 2 x↔∃r∈R,x=ikP 1 0 r\/(ib=true/\x=ikP 1 1 r)
 m3:∀x,c.M 3 x↔InD D x
 z1:c.Z 1<=100 * k
 z2:c.Z 2<=120 * k+(if ib then 6000 else 0)
 z3:c.Z 3<=21000
 ok:∀r∈R,r.Ok/\r.id<nx
 ids:R.Pairwise (fun a b=>a.id<b.id)
 nx:1<=nx/\nx<=k+1
 nd:Nts D
 ds:D.Perm (R.flatMap ntR)
theorem Lx {i j:Nat} (hi:i<256) (hj:j<256) (h:rkB 1 i=rkB 1 j):i=j:=by
 have h2:=congrArg (fun b:ByteArray=>b.data.toList) h;simp only[rkB,A0]at h2;exact G0 (NU (by omega)) (NU (by omega)) (List.append_cancel_left h2)
theorem F3 {p q i j:Nat} {x y:Vl} (hp:p<256) (hq:q<256) (hi:i<256) (hj:j<256) (h:ikB 1 p i x=ikB 1 q j y):p=q/\i=j:=by
 have h2:=congrArg (fun b:ByteArray=>b.data.toList) h;have h3:=congrArg (fun l:List UInt8=>l.take 3) h2;simp only[Jz]at h3;simp only[ikB,A0]at h2;have h4:=(List.append_inj' h2 (by simp[Ay])).2;have h5:=List.append_cancel_left h3;exact⟨G0 (by omega) (by omega) h5,G0 (NU (by omega)) (NU (by omega)) h4⟩
section
variable {c:Sts} {k nx:Nat} {R:List Rw} {ib:Bool} {D:List Nd} {r:Rw}
theorem StD.same (h:StD c k R nx ib D) {a b:Rw} (ha:a∈R) (hb:b∈R) (e:a.id=b.id):a=b:=by
 have hs:=h.ids;obtain⟨i,hi,rfl⟩:=List.getElem_of_mem ha;obtain⟨j,hj,rfl⟩:=List.getElem_of_mem hb;rcases Nat.lt_trichotomy i j with hij|hij|hij
 ·have:=List.pairwise_iff_getElem.1 hs i j hi hj hij;omega
 ·subst hij;rfl
 ·have:=List.pairwise_iff_getElem.1 hs j i hj hi hij;omega
theorem StD.len (h:StD c k R nx ib D):R.length+1<=nx:=by
 have key:∀(L:List Rw) (a:Nat),L.Pairwise (fun a b=>a.id<b.id)->(∀x∈L,a<=x.id/\x.id<nx)->a+L.length<=nx\/L=[]:=by
  intro L
  induction L with
  |nil=>intro a _ _;exact .inr rfl
  |cons x l ih=>
   intro a hp hb;rw[List.pairwise_cons]at hp;have hx:=hb x (by simp);rcases ih (x.id+1) hp.2 (fun y hy=>⟨hp.1 y hy,(hb y (by simp[hy])).2⟩)with h1|h1
   ·left;rw[List.length_cons];omega
   ·subst h1;left;simp;omega
 rcases key R 1 h.ids (fun x hx=>⟨(h.ok x hx).1.id.1,(h.ok x hx).2⟩)with h1|h1
 ·omega
 ·rw[h1];have:=h.nx.1;simp;omega
theorem StD.noted (h:StD c k R nx ib D) {d:Nd} (hd:d∈D):∃r∈R,d.n=A2/\d.r=r.id/\d.w∈Ah r.b.s.data.toList:=by
 have:=h.ds.mem_iff.1 hd;obtain⟨r,hr,hm⟩:=List.mem_flatMap.1 this;obtain⟨e1,e2,e3,_⟩:=BQ hm;exact⟨r,hr,e1,e2,e3⟩
theorem O9 (hok:r.Ok):r.b.s.size<=40:=by
 rcases Dm hok.rb with e|⟨n,e⟩|⟨s,e,hs⟩
 ·rw[e];decide
 ·rw[e];exact Nat.zero_le _
 ·rw[e];exact Es hs
theorem StD.addE (h:StD c k R nx ib D) (hok:r.Ok) (hn:∀q∈R,q.id≠r.id):addE D A2 (r.id:Nat) r.b.s=if 500<D.length+(Ah r.b.s.data.toList).length then 12 else 0:=by
 have hno:¬MU D A2 (((r.id:Nat):Int).toNat) (Ah r.b.s.data.toList)=true:=fun e=>by
  obtain⟨x,_,d,hd,_,_,e3⟩:=Ex.1 e;obtain⟨q,hq,_,e4,_⟩:=h.noted hd;exact hn q hq (by rw[<-e4,e3];simp)
 have hs:=O9 hok;unfold Go.Proofs.YtihnldkgeelehaaGreatDoor.addE;rw[if_pos (S4 hok),if_neg (by omega),if_neg hno]
theorem StD.put (h:StD c k R nx ib D) (hok:r.Ok) (hlt:r.id<nx) (hn:∀q∈R,q.id≠r.id) (h0:Go.Proofs.YtihnldkgeelehaaGreatDoor.addE D A2 (r.id:Nat) r.b.s=0):StD (cW (c2 c r ib) r D) (k+1) (Fg r R) nx ib (CN D A2 (r.id:Nat) r.b.s):=by
 have hid:=hok.id;have e0:(cW (c2 c r ib) r D).M 0=c.M 0:=by unfold cW c2;cases ib<;>rfl
 have e1:(cW (c2 c r ib) r D).M 1=Dn (c.M 1) (rkP 1 r):=by unfold cW c2;cases ib<;>rfl
 have f1:(cW (c2 c r ib) r D).Z 1=c.Z 1+100:=by unfold cW c2;cases ib<;>rfl
 refine⟨fun x=>by rw[e0];exact h.m0 x,fun x=> ?_,fun x=> ?_,fun x=>Iff.rfl,by rw[f1];have:=h.z1;omega,?_,Nat.le_refl _,fun q hq=> ?_,H9 h.ids hn,⟨h.nx.1,by have:=h.nx.2;omega⟩,h.nd.add _ _ _,?_⟩
 ·rw[e1]
  unfold Dn;rw[h.m1 x];constructor
  ·rintro(rfl|⟨⟨q,hq,rfl⟩,_⟩)
   ·exact⟨r,BN.2 (.inl rfl),rfl⟩
   ·exact⟨q,BN.2 (.inr hq),rfl⟩
  ·rintro⟨q,hq,rfl⟩
   rcases BN.1 hq with rfl|hq
   ·exact .inl rfl
   ·exact .inr ⟨⟨q,hq,rfl⟩,fun e=>hn q hq (Lx (by have:=(h.ok q hq).1.id;omega) (by omega) e)⟩
 ·have hk:∀p q,p<2->q<2->∀y∈R,(ikP 1 p y).k≠(ikP 1 q r).k:=fun p q hp hq y hy e=>hn y hy (F3 (by omega) (by omega) (by have:=(h.ok y hy).1.id;omega) (by omega) e).2
  have hk2:(ikP 1 0 r).k≠(ikP 1 1 r).k:=fun e=>by have:=(F3 (by omega) (by omega) (by omega) (by omega) e).1;omega
  cases ib
  ·show Dn (c.M 2) (ikP 1 0 r) x↔_
   unfold Dn;rw[h.m2 x];constructor
   ·rintro(rfl|⟨⟨q,hq,e⟩,_⟩)
    ·exact⟨r,BN.2 (.inl rfl),.inl rfl⟩
    ·exact⟨q,BN.2 (.inr hq),e⟩
   ·rintro⟨q,hq,e⟩
    rcases e with e|⟨e,_⟩
    ·rcases BN.1 hq with rfl|hq
     ·exact .inl e
     ·exact .inr ⟨⟨q,hq,.inl e⟩,by rw[e];exact hk 0 0 (by omega) (by omega) q hq⟩
    ·cases e
  ·show Dn (Dn (c.M 2) (ikP 1 0 r)) (ikP 1 1 r) x↔_
   unfold Dn;rw[h.m2 x];constructor
   ·rintro(rfl|⟨rfl|⟨⟨q,hq,e⟩,_⟩,_⟩)
    ·exact⟨r,BN.2 (.inl rfl),.inr ⟨rfl,rfl⟩⟩
    ·exact⟨r,BN.2 (.inl rfl),.inl rfl⟩
    ·exact⟨q,BN.2 (.inr hq),e⟩
   ·rintro⟨q,hq,e⟩
    rcases BN.1 hq with rfl|hq
    ·rcases e with e|⟨_,e⟩
     ·exact .inr ⟨.inl e,by rw[e];exact hk2⟩
     ·exact .inl e
    ·refine .inr ⟨.inr ⟨⟨q,hq,e⟩,?_⟩,?_⟩
     ·rcases e with e|⟨_,e⟩
      ·rw[e];exact hk 0 0 (by omega) (by omega) q hq
      ·rw[e];exact hk 1 0 (by omega) (by omega) q hq
     ·rcases e with e|⟨_,e⟩
      ·rw[e];exact hk 0 1 (by omega) (by omega) q hq
      ·rw[e];exact hk 1 1 (by omega) (by omega) q hq
 ·have:=h.z2
  cases ib
  ·show c.Z 2+60<=120 * (k+1)+0
   simp only[Bool.false_eq_true,if_false]at this;omega
  ·show c.Z 2+60+60<=120 * (k+1)+6000
   simp only[if_true]at this;omega
 ·rcases BN.1 hq with rfl|hq
  ·exact⟨hok,hlt⟩
  ·exact h.ok q hq
 ·unfold CN
  rw[if_pos h0]
  have p1:(R.flatMap ntR++ntR r).Perm ((Fg r R).flatMap ntR):=by
   have q1:=(Hc r R).flatMap_right ntR;rw[List.flatMap_cons]at q1;exact List.perm_append_comm.trans q1.symm
  have e:BE A2 (((r.id:Nat):Int).toNat) 0 (Ah r.b.s.data.toList)=ntR r:=by simp[ntR]
  rw[e];exact(h.ds.append_right _).trans p1
theorem StD.take (h:StD c k R nx ib D) (hr:r∈R):StD (dW (d2 c r ib) r D) k (Hf r.id R) nx ib (DT D A2 (r.id:Nat) r.b.s):=by
 have hok:=(h.ok r hr).1;have hid:=hok.id;have e0:(dW (d2 c r ib) r D).M 0=c.M 0:=by unfold dW d2;cases ib<;>rfl
 have e1:(dW (d2 c r ib) r D).M 1=EN (c.M 1) (rkP 1 r):=by unfold dW d2;cases ib<;>rfl
 have f1:(dW (d2 c r ib) r D).Z 1=c.Z 1:=by unfold dW d2;cases ib<;>rfl
 have f2:(dW (d2 c r ib) r D).Z 2=c.Z 2:=by unfold dW d2;cases ib<;>rfl
 refine⟨fun x=>by rw[e0];exact h.m0 x,fun x=> ?_,fun x=> ?_,fun x=>Iff.rfl,by rw[f1];exact h.z1,by rw[f2];exact h.z2,Nat.le_refl _,fun q hq=>h.ok q (Dq.1 hq).1,h.ids.filter _,h.nx,h.nd.drop _ _ _,?_⟩
 ·rw[e1]
  unfold EN;rw[h.m1 x];constructor
  ·rintro⟨⟨q,hq,rfl⟩,hne⟩
   refine⟨q,Dq.2 ⟨hq,fun e=>hne ?_⟩,rfl⟩;rw[h.same hq hr e]
  ·rintro⟨q,hq,rfl⟩
   obtain⟨h1,h2⟩:=Dq.1 hq;exact⟨⟨q,h1,rfl⟩,fun e=>h2 (Lx (by have:=(h.ok q h1).1.id;omega) (by omega) (congrArg Pr.k e))⟩
 ·have hk:∀p q,p<2->q<2->∀y∈R,y.id≠r.id->ikP 1 p y≠ikP 1 q r:=fun p q hp hq y hy hne e=>hne (F3 (by omega) (by omega) (by have:=(h.ok y hy).1.id;omega) (by omega) (congrArg Pr.k e)).2
  cases ib
  ·show EN (c.M 2) (ikP 1 0 r) x↔_
   unfold EN;rw[h.m2 x];constructor
   ·rintro⟨⟨q,hq,e|⟨e,_⟩⟩,hne⟩
    ·refine⟨q,Dq.2 ⟨hq,fun e2=>hne ?_⟩,.inl e⟩
     rw[e,h.same hq hr e2]
    ·cases e
   ·rintro⟨q,hq,e|⟨e,_⟩⟩
    ·obtain⟨h1,h2⟩:=Dq.1 hq
     exact⟨⟨q,h1,.inl e⟩,by rw[e];exact hk 0 0 (by omega) (by omega) q h1 h2⟩
    ·cases e
  ·show EN (EN (c.M 2) (ikP 1 0 r)) (ikP 1 1 r) x↔_
   unfold EN;rw[h.m2 x];constructor
   ·rintro⟨⟨⟨q,hq,e⟩,hne⟩,hne1⟩
    refine⟨q,Dq.2 ⟨hq,fun e2=> ?_⟩,e⟩;rw[h.same hq hr e2]at e;rcases e with e|⟨_,e⟩
    ·exact hne e
    ·exact hne1 e
   ·rintro⟨q,hq,e⟩
    obtain⟨h1,h2⟩:=Dq.1 hq;refine⟨⟨⟨q,h1,e⟩,?_⟩,?_⟩
    ·rcases e with e|⟨_,e⟩
     ·rw[e];exact hk 0 0 (by omega) (by omega) q h1 h2
     ·rw[e];exact hk 1 0 (by omega) (by omega) q h1 h2
    ·rcases e with e|⟨_,e⟩
     ·rw[e];exact hk 0 1 (by omega) (by omega) q h1 h2
     ·rw[e];exact hk 1 1 (by omega) (by omega) q h1 h2
 ·unfold DT
  rw[if_pos (S4 hok)]
  have hf:∀L:List Rw,(∀q∈L,q∈R)->(L.flatMap ntR).filter (fun d=> !d.out A2 (((r.id:Nat):Int).toNat) (Ah r.b.s.data.toList))=(Hf r.id L).flatMap ntR:=by
   intro L
   induction L with
   |nil=>intro _;rfl
   |cons q l ih=>
    intro hL;have ih:=ih (fun x hx=>hL x (by simp[hx]));rw[List.flatMap_cons,List.filter_append,ih];unfold Hf;rw[List.filter_cons]
    by_cases e:q.id=r.id
    ·have eq:=h.same (hL q (by simp)) hr e
     subst eq
     have h1:(ntR q).filter (fun d=> !d.out A2 (((q.id:Nat):Int).toNat) (Ah q.b.s.data.toList))=[]:=List.filter_eq_nil_iff.2 fun d hd hp=>by
      have hd2:d∈Ek (ntR q) A2 (((q.id:Nat):Int).toNat) (Ah q.b.s.data.toList):=List.mem_filter.2 ⟨hd,hp⟩;obtain⟨e1,e2,e3,_⟩:=BQ hd;exact(D6.1 hd2).2 ⟨e1,e3,by rw[e2];simp⟩
     rw[h1,if_neg (by simp)];rfl
    ·have h1:(ntR q).filter (fun d=> !d.out A2 (((r.id:Nat):Int).toNat) (Ah r.b.s.data.toList))=ntR q:=List.filter_eq_self.2 fun d hd=>by
      obtain⟨e1,e2,e3,_⟩:=BQ hd;have hd2:d∈Ek (ntR q) A2 (((r.id:Nat):Int).toNat) (Ah r.b.s.data.toList):=D6.2 ⟨hd,fun hh=>e (by have:=hh.2.2;rw[e2]at this;simpa using this)⟩;exact(List.mem_filter.1 hd2).2
     rw[h1,if_pos (by simpa using e),List.flatMap_cons]
  have:=h.ds.filter (fun d=> !d.out A2 (((r.id:Nat):Int).toNat) (Ah r.b.s.data.toList));rw[hf R (fun q hq=>hq)]at this;exact this
end
end
end Go.Proofs.YtihnldkgeelehaaGreatDoor
