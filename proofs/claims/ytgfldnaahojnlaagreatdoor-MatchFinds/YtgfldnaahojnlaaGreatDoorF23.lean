/- MatchFinds: part 23. -/
import Derived.Test.YtgfldnaahojnlaaGreatDoorF22
set_option maxRecDepth 100000
set_option maxHeartbeats 4000000
namespace Go.Proofs.YtgfldnaahojnlaaGreatDoor
section
open Go.RowKit Go.Maps
section
variable {bf bt bp bd bm N Z:Nat} {up:Nat->Bool} {V:Pst} {T:Tr} {M M':Pr->Prop} {w w':World}
theorem Fs.only {S:Nat->Prop} (h:Fs bf bt bp bd bm N up V T w) (ho:Aa S w w') (h1:¬S bf) (h2:¬S bt) (h3:¬S bp) (h4:¬S bm) (h5:¬S bd):Fs bf bt bp bd bm N up V T w':=
 ⟨h.c.only ho h1,h.t.only ho h2,h.tw.only ho h3 h4 h5,h.a,h.so,h.ne,h.nc⟩
theorem PrS.only {S:Nat->Prop} (h:PrS bf bt bp bd bm N Z M w) (ho:Aa S w w') (h1:¬S bf) (h2:¬S bt) (h3:¬S bp) (h4:¬S bm) (h5:¬S bd):PrS bf bt bp bd bm N Z M w':=by
 obtain⟨N1,up,V,T,k1,k2,k3⟩:=h;exact⟨N1,up,V,T,k1,k2.only ho h1 h2 h3 h4 h5,k3⟩
theorem PrS.lt (h:PrS bf bt bp bd bm N Z M w):bf<w.heap.size/\bt<w.heap.size/\bp<w.heap.size/\bm<w.heap.size/\bd<w.heap.size:=by
 obtain⟨N1,up,V,T,k1,k2,k3⟩:=h;exact⟨k2.c.lt,k2.t.lt,k2.tw.lt.1,k2.tw.lt.2.1,k2.tw.lt.2.2⟩
theorem PrS.above {n:Nat} (h:PrS bf bt bp bd bm N Z M w) (ho:Aa (fun b=>n<=b) w w') (hn:bf<n/\bt<n/\bp<n/\bm<n/\bd<n):PrS bf bt bp bd bm N Z M w':=by
 obtain⟨h1,h2,h3,h4,h5⟩:=hn;exact h.only ho (by omega) (by omega) (by omega) (by omega) (by omega)
theorem Ya (h:PrS bf bt bp bd bm N Z M w) {key:ByteArray} (hk:∀y,M y->y.k≠key):
  Calls Tryz.prog 52 #[.pointer (some ⟨bt,0,none⟩),.string key] w fun e w'=>e= .returned (.tuple #[.string ⟨#[]⟩,.iface 24 (.int .i64 7)])/\Below w.heap.size w w':=by
 obtain⟨N1,up,V,T,k1,k2,k3,k4⟩:=h;refine(QP k2.t k2.tw k2.a key).mono ?_;rintro e w' ⟨hg,hb⟩;rcases hg with⟨x,hx,hxk,_⟩|⟨_,rfl⟩
 ·exact absurd hxk (hk x ((k4 x).1 hx))
 ·exact⟨rfl,hb⟩
theorem WE (h:PrS bf bt bp bd bm N Z M w) {y:Pr} (hy:M y):
  Calls Tryz.prog 52 #[.pointer (some ⟨bt,0,none⟩),.string y.k] w fun e w'=>∃it,e= .returned (.tuple #[.string it,.nilIface])/\Below w.heap.size w w':=by
 obtain⟨N1,up,V,T,k1,k2,k3,k4⟩:=h;refine(QP k2.t k2.tw k2.a y.k).mono ?_;rintro e w' ⟨hg,hb⟩;rcases hg with⟨x,hx,hxk,rfl⟩|⟨hno,_⟩
 ·exact⟨_,rfl,hb⟩
 ·exact absurd rfl (hno y ((k4 y).2 hy))
set_option maxHeartbeats 2000000
theorem S4 {nm:ByteArray} {ws:List ByteArray} {v:Value} {r Bx:Nat} (hnm:nm.size<=1000) (h:PrS bf bt bp bd bm N Z M w) (hg:HG w) (hws:∀x∈ws,x.size<=100) (hl:ws.length<=100000) (hrow:w.ownsRow Bx 9 1 v ws.length (sc ws)):
  Calls Tryz.prog 25 #[.pointer (some ⟨bf,0,none⟩),.string nm,.int .i64 (r:Nat),v] w fun e w'=>((∀x∈ws,∀y,M y->y.k≠CM nm x r)/\e= .returned .nilIface\/(∃x∈ws,∃y,M y/\y.k=CM nm x r)/\e= .returned (.iface 24 (.int .i64 9)))/\Below w.heap.size w w':=by
 obtain⟨a9,c9,hv9⟩:=Bz hrow;obtain⟨n,hn⟩:∃n,ws.length=n:=⟨_,rfl⟩;have HN:Hid _:=hn;rw[hn]at hv9 hl;subst hv9;have HROW:Hid _:=hrow;have HWS:Hid _:=hws;have HP:Hid (PrS bf bt bp bd bm N Z M w):=h;have HGG:Hid (HG w):=hg;clear hrow hws h hg hn;go_enter Tryz.func25,Tryz.ntmps25;go_wp2_with fail;go_loopw [15] (fun iv wr=>∃(i:Nat),i<=n/\iv= .int .i64 (i:Nat)/\Hid (Below w.heap.size w wr)/\Hid (∀x∈ws.take i,∀y,M y->y.k≠CM nm x r)) (fun iv _=>n+1-(intOf iv).toNat)
 case atStart=>exact⟨0,Nat.zero_le _,rfl,Below.refl _ _,(show ∀x∈ws.take 0,∀y,M y->y.k≠CM nm x r from fun x hx=>by rw[List.take_zero]at hx;cases hx)⟩
 case round=>
  obtain⟨i,hi,rfl,HB,HT⟩:=hrel
  by_cases hlt:i<n
  ·have h1:(i:Int)<(n:Int):=by omega
   have hil:i<ws.length:=by rw[HN.out];exact hlt
   obtain⟨g,cap,hv,hcell⟩:=Gw (As HROW.out HB.out) hil;rw[HN.out]at hv
   cases hv
   have hix:=fun wx=>Ep g n c9 i hlt wx;obtain⟨wd,hwd⟩:∃wd,ws[i]=wd:=⟨_,rfl⟩;have hws1:wd.size<=100:=by have:=HWS.out _ (List.getElem_mem hil);rw[hwd]at this;exact this
   have HMW:Hid (wd∈ws):=by rw[<-hwd];exact List.getElem_mem hil
   have HT2:Hid ((∀y,M y->y.k≠CM nm wd r)->∀x∈ws.take (i+1),∀y,M y->y.k≠CM nm x r):=fun hq x hx=>by
    rw[List.take_succ_eq_append_getElem hil,List.mem_append,List.mem_singleton]at hx;rcases hx with hx|hx
    ·exact HT.out x hx
    ·rw[hx,hwd];exact hq
   rw[hwd]at hcell;clear hwd;have D0:Hid (wr.cell? ⟨bf,0,none⟩=some (.pointer (some ⟨bt,0,none⟩))):=(HP.out.below HB.out).own.cell;have HPR:Hid (PrS bf bt bp bd bm N Z M wr):=HP.out.below HB.out;have HGR:Hid (HG wr):=HGG.out.below HB.out HGG.out.lt
   by_cases hhit:∃y,M y/\y.k=CM nm wd r
   ·have HHT:Hid (∃x∈ws,∃y,M y/\y.k=CM nm x r):=⟨wd,HMW.out,hhit⟩
    have HGY:Hid (∀wx,PrS bf bt bp bd bm N Z M wx->Calls Tryz.prog 52 #[.pointer (some ⟨bt,0,none⟩),.string (CM nm wd r)] wx fun e w'=>∃it,e= .returned (.tuple #[.string it,.nilIface])/\Below wx.heap.size wx w'):=fun wx hx=>by
     obtain⟨y,hy,hyk⟩:=hhit;rw[<-hyk];exact WE hx hy
    clear hhit HT HT2;go_wp2_with fail;clear hcell hix
    go_region_held3 (fun wx=>wx.cell? ⟨bf,0,none⟩=some (.pointer (some ⟨bt,0,none⟩))) (first|exact D0.out|exact D1.out|exact D2.out) (first|(go_at_call 53;refine(Km nm wd r hnm (by omega) _).mono ?_;rintro _ w3 ⟨rfl,hb3⟩;have D1:Hid (w3.cell? ⟨bf,0,none⟩=some (.pointer (some ⟨bt,0,none⟩))):=AP hb3 D0.out;have HB3:Hid (Below wr.heap.size wr w3):=(Below.refl _ wr).drew.trans hb3;clear hb3)|(go_at_call 52;refine(show Calls _ _ _ _ _ from HGY.out _ (HPR.out.below HB3.out)).mono ?_;rintro _ w4 ⟨it4,rfl,hb4⟩;have D2:Hid (w4.cell? ⟨bf,0,none⟩=some (.pointer (some ⟨bt,0,none⟩))):=AP hb4 D1.out;have HB4:Hid (Below wr.heap.size wr w4):=HB3.out.trans (hb4.mono HB3.out.size);clear hb4))
    go_wp2_with fail;refine(MY _).mono ?_;rintro _ w5 ⟨rfl,h5⟩;obtain rfl:=h5.symm;clear h5;have HB5:Hid (Below w.heap.size w w4):=HB.out.trans (HB4.out.mono HB.out.size);go_wp2;go_ret;exact⟨.inr ⟨HHT.out,rfl⟩,HB5.out⟩
   ·have HNO1:Hid (∀y,M y->y.k≠CM nm wd r):=fun y hy e=>hhit ⟨y,hy,e⟩
    clear hhit;go_wp2_with fail;clear hcell hix
    go_region_held3 (fun wx=>wx.cell? ⟨bf,0,none⟩=some (.pointer (some ⟨bt,0,none⟩))) (first|exact D0.out|exact D1.out|exact D2.out) (first|(go_at_call 53;refine(Km nm wd r hnm (by omega) _).mono ?_;rintro _ w3 ⟨rfl,hb3⟩;have D1:Hid (w3.cell? ⟨bf,0,none⟩=some (.pointer (some ⟨bt,0,none⟩))):=AP hb3 D0.out;have HB3:Hid (Below wr.heap.size wr w3):=(Below.refl _ wr).drew.trans hb3;clear hb3)|(go_at_call 52;refine(Ya (HPR.out.below HB3.out) HNO1.out).mono ?_;rintro _ w4 ⟨rfl,hb4⟩;have D2:Hid (w4.cell? ⟨bf,0,none⟩=some (.pointer (some ⟨bt,0,none⟩))):=AP hb4 D1.out;have HB4:Hid (Below wr.heap.size wr w4):=HB3.out.trans (hb4.mono HB3.out.size);clear hb4))
    go_wp2_with fail;refine(MZ 7 _ (HGR.out.below HB4.out HGR.out.lt)).mono ?_;rintro _ w5 ⟨rfl,hb5⟩;have HB5:Hid (Below w.heap.size w w5):=(HB.out.trans (HB4.out.mono HB.out.size)).trans (hb5.mono (Nat.le_trans HB.out.size HB4.out.size));clear hb5;go_wp2_with fail;go_roundw
    case rel=>exact⟨i+1,by omega,by go_num,HB5,HT2.out HNO1.out⟩
    case measure=>simp[intOf];omega
  ·have h1:¬(i:Int)<(n:Int):=by omega
   obtain rfl:n=i:=by omega
   go_wp2;go_ret;exact⟨.inl ⟨fun x hx=>HT.out x (by rw[List.take_of_length_le (by rw[HN.out];exact Nat.le_refl _)];exact hx),rfl⟩,HB.out⟩
end
structure Bx3 (b0 bf:Nat) (nm:ByteArray) (r:Nat) (w:World):Prop where
 f:Af b0 (.pointer (some ⟨bf,0,none⟩)) w
 n:Af (b0+1) (.string nm) w
 r:Af (b0+2) (.int .i64 (r:Nat)) w
section
variable {b0 bf bt bp bd bm N Z r:Nat} {M:Pr->Prop} {w w':World} {nm:ByteArray}
theorem Bx3.only {S:Nat->Prop} (h:Bx3 b0 bf nm r w) (ho:Aa S w w') (hs:∀i,S i->i<b0\/b0+3<=i):Bx3 b0 bf nm r w':=
 ⟨h.f.only ho (fun e=>by have:=hs _ e;omega),h.n.only ho (fun e=>by have:=hs _ e;omega),h.r.only ho (fun e=>by have:=hs _ e;omega)⟩
theorem Bx3.below (h:Bx3 b0 bf nm r w) (hb:Below w.heap.size w w'):Bx3 b0 bf nm r w':=⟨h.f.below hb,h.n.below hb,h.r.below hb⟩
def BxS (b0 bf bt:Nat) (nm:ByteArray) (r:Nat) (wx:World):Prop:=wx.cell? ⟨b0,0,none⟩=some (.pointer (some ⟨bf,0,none⟩))/\wx.cell? ⟨bf,0,none⟩=some (.pointer (some ⟨bt,0,none⟩))/\wx.cell? ⟨b0+1,0,none⟩=some (.string nm)/\wx.cell? ⟨b0+2,0,none⟩=some (.int .i64 (r:Nat))
theorem Bx3.cells (h:Bx3 b0 bf nm r w) (hp:PrS bf bt bp bd bm N Z M w):BxS b0 bf bt nm r w:=⟨h.f.cell,hp.own.cell,h.n.cell,h.r.cell⟩
set_option maxHeartbeats 2000000
theorem Wo {c:Pc} (hc:c.Ok) (h:PrS bf bt bp bd bm N Z M w) (hb:Bx3 b0 bf c.n c.r w) (h0:bp<b0/\bm<b0) {a:Option Addr} {n cp B:Nat} (hrow:w.ownsRow B 81 2 (.slice a n cp) c.l.length (plc c.l)) (hn:n=c.l.length) (hZ:Z+61<=30000) (hN:N+60<1000000):
  Calls Tryz.prog 58 #[.string c.w,.slice a n cp,.pointer (some ⟨b0,0,none⟩),.pointer (some ⟨b0+1,0,none⟩),.pointer (some ⟨b0+2,0,none⟩)] w fun e w'=>e= .returned .nilIface/\PrS bf bt bp bd bm (N+40) (Z+61) (fun y=>y=c.pr\/(M y/\y.k≠c.pr.k)) w'/\Aa (fun b=>b=bp\/b=bm) w w':=by
 have hpk:=hc.pr;have htl:=hc.len;have hxs:=hc.w.le;have hns:=hc.n.le;obtain⟨a1,c1,e1,hR,_⟩:=ER hrow (by omega);rw[<-hn]at e1 hR
 cases e1
 have HWR:Hid (∀wx,Below w.heap.size w wx->Calls Tryz.prog 59 #[.slice a n cp] wx fun e w'=>e= .returned (.tuple #[.string c.pr.i,.nilIface])/\Below wx.heap.size wx w'):=fun wx hb=>Rf a n cp _ wx (hR.below hb) hc.right (by omega);have HPT:Hid (∀wx,PrS bf bt bp bd bm N Z M wx->Calls Tryz.prog 60 #[.pointer (some ⟨bt,0,none⟩),.string (CM c.n c.w c.r),.string c.pr.i] wx fun e w'=>e= .returned .nilIface/\PrS bf bt bp bd bm (N+40) (Z+61) (fun y=>y=c.pr\/(M y/\y.k≠c.pr.k)) w'/\Aa (fun b=>b=bp\/b=bm) wx w'):=fun wx hh=>(YT hh c.pr hpk.1 (by have:=hpk.2;omega) (by omega)).mono (fun e w' hq=>⟨hq.1,hq.2.1.mono (Nat.le_refl _) (by have:=hpk.2;omega),hq.2.2⟩);obtain⟨it,hit⟩:∃it,c.pr.i=it:=⟨_,rfl⟩;rw[hit]at HWR HPT;have HP:Hid (PrS bf bt bp bd bm N Z M w):=h;have HB:Hid (Bx3 b0 bf c.n c.r w):=hb;obtain⟨p0,hp0⟩:=h0;clear hit hpk htl hR hrow hn h hb hc;go_enter Tryz.func58,Tryz.ntmps58;go_wp2_with fail;refine(show Calls _ _ _ _ _ from HWR.out w (Below.refl _ _)).mono ?_;rintro _ w2 ⟨rfl,hb2⟩;have HP2:Hid (PrS bf bt bp bd bm N Z M w2):=HP.out.below hb2;have HX2:Hid (Bx3 b0 bf c.n c.r w2):=HB.out.below hb2;have HB2:Hid (Below w.heap.size w w2):=hb2;clear hb2;have D0:Hid (BxS b0 bf bt c.n c.r w2):=HX2.out.cells HP2.out;go_wp2_with fail
 go_region_held3 (fun wx=>wx.cell? ⟨b0,0,none⟩=some (.pointer (some ⟨bf,0,none⟩))/\wx.cell? ⟨bf,0,none⟩=some (.pointer (some ⟨bt,0,none⟩))/\wx.cell? ⟨b0+1,0,none⟩=some (.string c.n)/\wx.cell? ⟨b0+2,0,none⟩=some (.int .i64 (c.r:Nat))) (first|exact D0.out|exact D1.out|exact D2.out) (first|(go_at_call 53;refine(Km c.n c.w c.r (by omega) (by omega) _).mono ?_;rintro _ w3 ⟨rfl,hb3⟩;have HB3:Hid (Below w2.heap.size w2 w3):=(Below.refl _ w2).drew.trans hb3;have HP3:Hid (PrS bf bt bp bd bm N Z M w3):=HP2.out.below HB3.out;have HX3:Hid (Bx3 b0 bf c.n c.r w3):=HX2.out.below HB3.out;have D1:Hid (BxS b0 bf bt c.n c.r w3):=HX3.out.cells HP3.out;clear hb3)|(go_at_call 60;refine(show Calls _ _ _ _ _ from HPT.out _ HP3.out).mono ?_;rintro _ w4 ⟨rfl,hq4,ho4⟩;have HP4:Hid (PrS bf bt bp bd bm (N+40) (Z+61) (fun y=>y=c.pr\/(M y/\y.k≠c.pr.k)) w4):=hq4;have HX4:Hid (Bx3 b0 bf c.n c.r w4):=HX3.out.only ho4 (fun i e=>by rcases e with e|e<;>omega);have D2:Hid (BxS b0 bf bt c.n c.r w4):=HX4.out.cells HP4.out;have HO4:Hid (Aa (fun b=>b=bp\/b=bm) w w4):=(Ab (HB2.out.trans (HB3.out.mono HB2.out.size)) _).trans ho4 (fun _ e=> .inl e);clear hq4 ho4))
 go_wp2;go_ret;exact⟨rfl,HP4.out,HO4.out⟩
end
theorem T5 {l:List ByteArray} {i:Nat} (hi:i<l.length):l[i]∈l.take (i+1):=by
 rw[List.take_succ_eq_append_getElem hi,List.mem_append,List.mem_singleton];exact .inr rfl
theorem Na {l:List ByteArray} {i:Nat} (hi:i<l.length) {x:ByteArray} (h:x∈l.take i):x∈l.take (i+1):=by
 rw[List.take_succ_eq_append_getElem hi,List.mem_append];exact .inl h
def PZ (bf:Nat) (nm:ByteArray) (r:Nat) (w:World):World:=((w.alloc (.cells #[.pointer (some ⟨bf,0,none⟩)] 32)).alloc (.cells #[.string nm] 9)).alloc (.cells #[.int .i64 (r:Nat)] 3)
theorem QW (bf:Nat) (nm:ByteArray) (r:Nat) (w:World):Bx3 w.heap.size bf nm r (PZ bf nm r w)/\Below w.heap.size w (PZ bf nm r w)/\(PZ bf nm r w).heap.size=w.heap.size+3:=by
 unfold PZ;refine⟨⟨?_,?_,?_⟩,?_,by simp⟩
 ·exact((Af.new w (.pointer (some ⟨bf,0,none⟩)) 32).below ((Below.refl _ _).alloc (Nat.le_refl _) _)).below ((Below.refl _ _).alloc (Nat.le_refl _) _)
 ·have:=Af.new (w.alloc (.cells #[.pointer (some ⟨bf,0,none⟩)] 32)) (.string nm) 9
  rw[World.size_alloc]at this;exact this.below ((Below.refl _ _).alloc (Nat.le_refl _) _)
 ·have:=Af.new ((w.alloc (.cells #[.pointer (some ⟨bf,0,none⟩)] 32)).alloc (.cells #[.string nm] 9)) (.int .i64 (r:Nat)) 3
  rw[World.size_alloc,World.size_alloc]at this;exact this
 ·exact(((Below.refl _ w).alloc (Nat.le_refl _) _).alloc (by simp) _).alloc (by simp only[World.size_alloc];omega) _
structure Tx (nm:ByteArray) (r:Nat) (ws:List ByteArray):Prop where
 n:Qh nm
 lo:1<=r
 hi:r<=1073741824
 wk:∀x∈ws,WOk x
 len:ws.length<=20
def pcT (nm:ByteArray) (r:Nat) (ws:List ByteArray) (x:ByteArray):Pc:=⟨nm,x,r,AU r 0 ws x⟩
theorem Tx.pc {nm:ByteArray} {r:Nat} {ws:List ByteArray} (h:Tx nm r ws) {x:ByteArray} (hx:x∈ws):(pcT nm r ws x).Ok:=
 ⟨h.n,h.wk x hx,h.lo,h.hi,N7 r ws 0 x (by have:=h.len;omega),Lq r ws 0 x hx⟩
theorem RI {nm:ByteArray} {r:Nat} {ws:List ByteArray} (h:Tx nm r ws) {x y:ByteArray} (hx:x∈ws) (hy:y∈ws) (hne:x≠y):(pcT nm r ws x).pr.k≠(pcT nm r ws y).pr.k:=fun e=>hne ((h.pc hx).key (h.pc hy) e).2.1
section
variable {bf bt bp bd bm N Z Bx:Nat} {M:Pr->Prop} {w:World} {v:Value} {nm:ByteArray} {r:Nat} {ws:List ByteArray}
theorem RW (ht:Tx nm r ws) (h:PrS bf bt bp bd bm N Z M w) (hrow:w.ownsRow Bx 9 1 v ws.length (sc ws)) (hvb:∀b,v.ownBlock=some b->b≠bp/\b≠bm) (hno:∀x∈ws,∀y,M y->y.k≠CM nm x r) (hZ:Z+61 * ws.length<=30000) (hN:N+40 * ws.length+60<1000000):
  Calls Tryz.prog 57 #[v,.int .i64 (r:Nat),.func (.func 58) #[] #[.pointer (some ⟨w.heap.size,0,none⟩),.pointer (some ⟨w.heap.size+1,0,none⟩),.pointer (some ⟨w.heap.size+2,0,none⟩)]] (PZ bf nm r w) fun e w'=>e= .returned .nilIface/\PrS bf bt bp bd bm (N+40 * ws.length) (Z+61 * ws.length) (fun y=>M y\/∃x∈ws,y=(pcT nm r ws x).pr) w'/\Aa (fun b=>b=bp\/b=bm) w w':=by
 obtain⟨hx3,hb3,hs3⟩:=QW bf nm r w;obtain⟨l1,l2,l3,l4,l5⟩:=h.lt;refine(Ur (w:=PZ bf nm r w) (W:=fun b=>b=bp\/b=bm) (I:=fun i wx=>Bx3 w.heap.size bf nm r wx/\PrS bf bt bp bd bm (N+40 * i) (Z+61 * i) (fun y=>M y\/∃x∈ws.take i,y=(pcT nm r ws x).pr) wx) (fun x hx=>by have:=(ht.wk x hx).le;omega) (by have:=ht.len;omega) (As hrow hb3) (fun b e=>⟨by rcases e with e|e<;>omega,fun e2=>by have:=hvb b e2;rcases e with e|e;exact this.1 e;exact this.2 e⟩) (enters_of Tryz.func58 (by kernel_rfl) rfl) ⟨hx3,?_⟩ (fun k wx wy hI ho=>⟨hI.1.only ho (fun i e=>by omega),hI.2.above ho (by omega)⟩) (fun i hi a n c wx hnew hI hsz hr hn=> ?_) (fun i hi wx hin hI=>⟨hI.1,?_⟩)).mono ?_
 ·exact((h.below hb3).mono (by omega) (by omega)).iff (fun y=>by simp)
 ·have hmi:ws[i]∈ws:=List.getElem_mem hi
  refine(Wo (ht.pc hmi) hI.2 hI.1 ⟨l3,l4⟩ hr hn (by omega) (by omega)).mono ?_;rintro e w' ⟨rfl,g1,g2⟩;refine⟨rfl,⟨hI.1.only g2 (fun j e=>by rcases e with e|e<;>omega),?_⟩,g2⟩;refine(g1.mono (by omega) (by omega)).iff (fun y=> ?_);constructor
  ·rintro(rfl|⟨hy,_⟩)
   ·exact .inr ⟨_,T5 hi,rfl⟩
   ·rcases hy with hy|⟨x,hx,rfl⟩
    ·exact .inl hy
    ·exact .inr ⟨x,Na hi hx,rfl⟩
  ·rintro(hy|⟨x,hx,rfl⟩)
   ·exact .inr ⟨.inl hy,hno _ hmi y hy⟩
   ·rw[List.take_succ_eq_append_getElem hi,List.mem_append,List.mem_singleton]at hx
    rcases hx with hx|hx
    ·exact .inr ⟨.inr ⟨x,hx,rfl⟩,RI ht (List.mem_of_mem_take hx) hmi (fun e=>hnew (by rw[<-e];exact hx))⟩
    ·exact .inl (by rw[hx])
 ·refine(hI.2.mono (by omega) (by omega)).iff (fun y=> ?_)
  constructor
  ·rintro(hy|⟨x,hx,rfl⟩)
   ·exact .inl hy
   ·exact .inr ⟨x,Na hi hx,rfl⟩
  ·rintro(hy|⟨x,hx,rfl⟩)
   ·exact .inl hy
   ·rw[List.take_succ_eq_append_getElem hi,List.mem_append,List.mem_singleton]at hx
    rcases hx with hx|hx
    ·exact .inr ⟨x,hx,rfl⟩
    ·exact .inr ⟨x,by rw[hx];exact hin,rfl⟩
 ·rintro e w' ⟨rfl,⟨_,g1⟩,g2⟩
  rw[List.take_length]at g1;exact⟨rfl,g1,(Ab hb3 _).trans g2 (fun _ e=> .inl e)⟩
set_option maxHeartbeats 2000000
theorem Ux (ht:Tx nm r ws) (h:PrS bf bt bp bd bm N Z M w) (hrow:w.ownsRow Bx 9 1 v ws.length (sc ws)) (hvb:∀b,v.ownBlock=some b->b≠bp/\b≠bm) (hno:∀x∈ws,∀y,M y->y.k≠CM nm x r) (hZ:Z+61 * ws.length<=30000) (hN:N+40 * ws.length+60<1000000):
  Calls Tryz.prog 27 #[.pointer (some ⟨bf,0,none⟩),.string nm,.int .i64 (r:Nat),v] w fun e w'=>e= .returned .nilIface/\PrS bf bt bp bd bm (N+40 * ws.length) (Z+61 * ws.length) (fun y=>M y\/∃x∈ws,y=(pcT nm r ws x).pr) w'/\Aa (fun b=>b=bp\/b=bm) w w':=by
 have HO:Hid _:=RW ht h hrow hvb hno hZ hN;have hmf:∀(fn:Fn) (first cap:Array Value) (w:World),(Instr.makeFunc fn first cap).run Tryz.prog w= .ok (.func fn first cap) w:=fun _ _ _ _=>rfl;obtain⟨hx3,_,_⟩:=QW bf nm r w;have c0:=hx3.r.cell;obtain⟨w0,hw0⟩:∃w0,PZ bf nm r w=w0:=⟨_,rfl⟩;have hw1:((w.alloc (.cells #[.pointer (some ⟨bf,0,none⟩)] 32)).alloc (.cells #[.string nm] 9)).alloc (.cells #[.int .i64 (r:Nat)] 3)=w0:=hw0;rw[hw0]at c0 HO;have c1:w0.cell? ⟨w.heap.size+1+1,0,none⟩=some (.int .i64 (r:Nat)):=c0;clear hx3 hw0 h hrow hvb hno ht c0;go_enter Tryz.func27,Tryz.ntmps27;go_wp2_with fail;refine(show Calls _ _ _ _ _ from HO.out).mono ?_;rintro _ w2 ⟨rfl,g1,g2⟩;have HG1:Hid _:=g1;have HG2:Hid _:=g2;clear g1 g2 HO;go_wp2;go_ret;exact⟨rfl,HG1.out,HG2.out⟩
end
structure Gl (w:World):Prop where
 m:∃m:Int,w.cell? ⟨1,0,none⟩=some (.int .i64 m)
 h:HG w
 e:AQ w
section
variable {w w':World}
theorem Gl.below (h:Gl w) (hb:Below w.heap.size w w'):Gl w':=by
 obtain⟨⟨m,h1⟩,h2,h3⟩:=h;exact⟨⟨m,AP hb h1⟩,h2.below hb h2.lt,h3.below hb⟩
theorem Gl.only {S:Nat->Prop} (h:Gl w) (ho:Aa S w w') (hS:∀b,S b->3<=b):Gl w':=by
 obtain⟨⟨m,h1⟩,h2,h3⟩:=h;have l2:1<w.heap.size:=World.block_lt_of_cell? _ _ h1;refine⟨⟨m,(ho.cell l2 (fun e=>by have:=hS _ e;omega) 0).trans h1⟩,(ho.cell h2.lt (fun e=>by have:=hS _ e;omega) 0).trans h2,?_⟩;unfold AQ at h3 ⊢;have e:∀o,w'.cell? ⟨0,o,none⟩=w.cell? ⟨0,o,none⟩:=fun o=>ho.cell (by omega) (fun e=>by have:=hS _ e;omega) o;simp only[e];exact h3
end
def QN (D:List Nd) (nm:ByteArray) (r:Nat) (ws:List ByteArray):Bool:=ws.any (fun x=>D.any (fun d=>d.is nm x r))
theorem DE {D:List Nd} {nm:ByteArray} {r:Nat} {ws:List ByteArray}:QN D nm r ws=true↔Fe D nm r ws:=by
 unfold QN Fe;simp only[List.any_eq_true,E9]
theorem QM {D:List Nd} {nm:ByteArray} {r:Nat} {ws:List ByteArray} (hD:DOk D) (hn:Qh nm) (h2:r<=1073741824) (hw:∀x∈ws,WOk x):(∃x∈ws,∃y,InD D y/\y.k=CM nm x r)↔Fe D nm r ws:=by
 constructor
 ·rintro⟨x,hx,y,⟨d,hd,rfl⟩,e⟩
  have k:=hD.ok d hd;obtain⟨a1,a2,a3⟩:=NZ (n:=d.n) (w:=d.w) (r:=d.r) k.n.nz k.w.nz (by have:=k.hi;omega) hn.nz (hw x hx).nz (by omega) e;exact⟨x,hx,d,hd,a1,a2,a3⟩
 ·rintro⟨x,hx,d,hd,rfl,rfl,rfl⟩
  exact⟨d.w,hx,_,⟨d,hd,rfl⟩,rfl⟩
def Co (D:List Nd) (nm:ByteArray) (r:Int) (s:ByteArray):Int:=
 if CV nm r=0 then(if 40<s.size then 1 else if QN D nm r.toNat (Ad s.data.toList)=true then 9 else if 500<D.length+(Ad s.data.toList).length then 12 else 0)else CV nm r
def C3 (D:List Nd) (nm:ByteArray) (r:Int) (s:ByteArray):List Nd:=if Co D nm r s=0 then D++AX nm r.toNat 0 (Ad s.data.toList)else D
theorem LZ {nm:ByteArray} {r:Int} {s:ByteArray} (h:CV nm r=0) (hs:s.size<=40):Tx nm r.toNat (Ad s.data.toList):=by
 obtain⟨h1,h2,h3⟩:=MI h;exact⟨h1,by omega,by omega,fun x hx=>LU hx,by have:=MV s;omega⟩
theorem LN {D:List Nd} {nm:ByteArray} {r:Int} {s:ByteArray} (h:Co D nm r s=0):CV nm r=0/\s.size<=40/\¬Fe D nm r.toNat (Ad s.data.toList)/\D.length+(Ad s.data.toList).length<=500:=by
 unfold Co at h
 by_cases h1:CV nm r=0
 ·rw[if_pos h1]at h
  refine⟨h1,?_⟩
  by_cases h2:40<s.size
  ·rw[if_pos h2]at h;cases h
  ·rw[if_neg h2]at h
   by_cases h3:QN D nm r.toNat (Ad s.data.toList)=true
   ·rw[if_pos h3]at h;cases h
   ·rw[if_neg h3]at h
    by_cases h4:500<D.length+(Ad s.data.toList).length
    ·rw[if_pos h4]at h;cases h
    ·exact⟨by omega,fun h5=>h3 (DE.2 h5),by omega⟩
 ·rw[if_neg h1]at h;exact absurd h h1
structure Nts (D:List Nd):Prop where
 ok:DOk D
 len:D.length<=500
theorem Nts.nil:Nts []:=⟨DOk.nil,by simp⟩
theorem Nts.add {D:List Nd} (h:Nts D) (nm:ByteArray) (r:Int) (s:ByteArray):Nts (C3 D nm r s):=by
 unfold C3
 by_cases h0:Co D nm r s=0
 ·rw[if_pos h0]
  obtain⟨h1,h2,h3,h4⟩:=LN h0;have t:=LZ h1 h2;exact⟨h.ok.add t.n t.lo t.hi t.wk t.len h3,by rw[List.length_append,G5];exact h4⟩
 ·rw[if_neg h0];exact h
section
variable {bf bt bp bd bm N Bx:Nat} {w w':World} {D:List Nd} {nm s:ByteArray} {r:Int}
theorem Ij {n:Int} (h:¬n=0):Gh n= .iface 24 (.int .i64 n):=by unfold Gh;rw[if_neg h]
theorem Rr (hs:s.size<=1000) (hg:Gl w) (w0:World) (hb:Below w.heap.size w w0):
  Calls Tryz.prog 24 #[.string s] w0 fun e w'=>∃a c,e= .returned (.slice a (Ad s.data.toList).length c)/\w'.ownsRow w0.heap.size 9 1 (.slice a (Ad s.data.toList).length c) (Ad s.data.toList).length (sc (Ad s.data.toList))/\Below w0.heap.size w0 w':=by
 refine(Gx s w0 (by omega) (hg.below hb).e).mono ?_;rintro e w' ⟨v,rfl,h1,h2⟩;obtain⟨a,c,rfl⟩:=Bz h1;exact⟨a,c,rfl,h1,h2⟩
theorem Y9 (hD:Nts D) (h:PrS bf bt bp bd bm N 21000 (InD D) w) (hg:Gl w):
  Calls Tryz.prog 26 #[.pointer (some ⟨bf,0,none⟩)] w fun e w'=>e= .returned (.tuple #[.int .i64 (D.length:Nat),.nilIface])/\Below w.heap.size w w':=by
 obtain⟨N1,up,V,T,L,k0,k1,k2,k3⟩:=h.piecesD hD.ok;obtain⟨m,hm⟩:=hg.m;have:=UA k1 hm (k3.ok hD.ok) k2 (by have:=k3.len hD.ok;have:=hD.len;omega);rw[k3.cnt hD.ok]at this;exact this
set_option maxHeartbeats 2000000
theorem VE (hD:Nts D) (h:PrS bf bt bp bd bm N 21000 (InD D) w) (hg:Gl w) (nm s:ByteArray) (r:Int) (hnm:nm.size<=1000) (hs:s.size<=1000) (hN:N+1000<1000000):
  Calls Tryz.prog 8 #[.pointer (some ⟨bf,0,none⟩),.string nm,.int .i64 r,.string s] w fun e w'=>e= .returned (Gh (Co D nm r s))/\PrS bf bt bp bd bm (N+800) 21000 (InD (C3 D nm r s)) w'/\Aa (fun b=>b=bp\/b=bm) w w':=by
 by_cases h1:CV nm r=0
 ·have hck:Calls Tryz.prog 23 #[.string nm,.int .i64 r] w fun e w'=>e= .returned .nilIface/\w'=w:=(KA nm r w).mono (fun e w' hh=>⟨by rw[hh.1,h1];rfl,hh.2⟩)
  have HCK:Hid _:=hck
  by_cases h2:40<s.size
  ·have he:Co D nm r s=1:=by unfold Co;rw[if_pos h1,if_pos h2]
   have hd:C3 D nm r s=D:=by unfold C3;rw[he];rfl
   rw[he,hd,Ij (by decide)];have hP:PrS bf bt bp bd bm (N+800) 21000 (InD D) w:=h.mono (by omega) (Nat.le_refl _);have HP:Hid _:=hP;have i2:(40:Int)<(s.size:Int):=by omega
   clear he hd hP h hD hg hck h1 h2;go_enter Tryz.func8,Tryz.ntmps8;go_wp2_with fail;refine(show Calls _ _ _ _ _ from HCK.out).mono ?_;rintro _ w9 ⟨rfl,h9⟩;obtain rfl:=h9.symm;clear h9;go_wp2;go_ret;exact⟨rfl,HP.out,Aa.refl _ _⟩
  ·have i2:¬(40:Int)<(s.size:Int):=by omega
   have ht:=LZ h1 (s:=s) (by omega);have hrr:=(MI h1).2;have htl:=ht.len;obtain⟨l1,l2,l3,l4,l5⟩:=h.lt;have HSP:Hid _:=fun w0 hb=>Rr (s:=s) (w:=w) hs hg w0 hb
   have HFR:Hid (∀wx B a c,Below w.heap.size w wx->wx.ownsRow B 9 1 (.slice a (Ad s.data.toList).length c) (Ad s.data.toList).length (sc (Ad s.data.toList))->Calls Tryz.prog 25 #[.pointer (some ⟨bf,0,none⟩),.string nm,.int .i64 r,.slice a (Ad s.data.toList).length c] wx fun e w'=>(¬Fe D nm r.toNat (Ad s.data.toList)/\e= .returned .nilIface\/Fe D nm r.toNat (Ad s.data.toList)/\e= .returned (.iface 24 (.int .i64 9)))/\Below wx.heap.size wx w'):=fun wx B a c hb ho=>by
    have hr:r=((r.toNat:Nat):Int):=by omega
    have hq:=S4 (r:=r.toNat) (nm:=nm) hnm (h.below hb) (hg.below hb).h (fun x hx=>by have:=(ht.wk x hx).le;omega) (by omega) ho;rw[<-hr]at hq;have hk:=QM hD.ok ht.n ht.hi ht.wk;refine hq.mono ?_;rintro e w' ⟨hh,hb'⟩;refine⟨?_,hb'⟩;rcases hh with⟨g1,g2⟩|⟨g1,g2⟩
    ·refine .inl ⟨fun hh=> ?_,g2⟩
     obtain⟨x,hx,y,hy,e⟩:=hk.2 hh;exact g1 x hx y hy e
    ·exact .inr ⟨hk.1 g1,g2⟩
   have HMY:Hid (∀wx,Below w.heap.size w wx->Calls Tryz.prog 26 #[.pointer (some ⟨bf,0,none⟩)] wx fun e w'=>e= .returned (.tuple #[.int .i64 (D.length:Nat),.nilIface])/\Below wx.heap.size wx w'):=fun wx hb=>Y9 hD (h.below hb) (hg.below hb)
   have HNT:Hid (Co D nm r s=0->∀wx B a c,Below w.heap.size w wx->w.heap.size<=B->wx.ownsRow B 9 1 (.slice a (Ad s.data.toList).length c) (Ad s.data.toList).length (sc (Ad s.data.toList))->Calls Tryz.prog 27 #[.pointer (some ⟨bf,0,none⟩),.string nm,.int .i64 r,.slice a (Ad s.data.toList).length c] wx fun e w'=>e= .returned .nilIface/\PrS bf bt bp bd bm (N+800) 21000 (InD (C3 D nm r s)) w'/\Aa (fun b=>b=bp\/b=bm) wx w'):=fun h0 wx B a c hb hB ho=>by
    have hr:r=((r.toNat:Nat):Int):=by omega
    obtain⟨_,_,hno,hfull⟩:=LN h0;have hk:=QM hD.ok ht.n ht.hi ht.wk;have hq:=Ux ht (h.below hb) ho (fun b e=>by have:=(World.ownsRow.lt ho b e).1;omega) (fun x hx y hy e=>hno (hk.1 ⟨x,hx,y,hy,e⟩)) (by omega) (by omega);rw[<-hr]at hq;refine hq.mono ?_;rintro e w' ⟨rfl,g1,g2⟩;have hNt:=hD.add nm r s;have e1:C3 D nm r s=D++AX nm r.toNat 0 (Ad s.data.toList):=by unfold C3;rw[if_pos h0]
    rw[e1]at hNt ⊢;refine⟨rfl,?_,g2⟩;have g3:=(g1.iff (M':=InD (D++AX nm r.toNat 0 (Ad s.data.toList))) (fun y=>(WA hno y).symm)).tight hNt.ok;exact g3.mono (by omega) (by have:=hNt.len;omega)
   have HP:Hid (∀wx,Below w.heap.size w wx->PrS bf bt bp bd bm (N+800) 21000 (InD D) wx):=fun wx hb=>(h.below hb).mono (by omega) (Nat.le_refl _)
   have HE9:Hid (Fe D nm r.toNat (Ad s.data.toList)->Co D nm r s=9/\C3 D nm r s=D):=fun hh=>by
    have he:Co D nm r s=9:=by unfold Co;rw[if_pos h1,if_neg h2,if_pos (DE.2 hh)]
    exact⟨he,by unfold C3;rw[he];rfl⟩
   have HE12:Hid (¬Fe D nm r.toNat (Ad s.data.toList)->500<D.length+(Ad s.data.toList).length->Co D nm r s=12/\C3 D nm r s=D):=fun hh hf=>by
    have he:Co D nm r s=12:=by unfold Co;rw[if_pos h1,if_neg h2,if_neg (fun e=>hh (DE.1 e)),if_pos hf]
    exact⟨he,by unfold C3;rw[he];rfl⟩
   have HE0:Hid (¬Fe D nm r.toNat (Ad s.data.toList)->¬500<D.length+(Ad s.data.toList).length->Co D nm r s=0):=fun hh hf=>by unfold Co;rw[if_pos h1,if_neg h2,if_neg (fun e=>hh (DE.1 e)),if_neg hf]
   have hDl:=hD.len;obtain⟨E,hE⟩:∃E,Gh (Co D nm r s)=E:=⟨_,rfl⟩;have HEV:Hid (Gh (Co D nm r s)=E):=hE;rw[hE];obtain⟨n,hn⟩:∃n,(Ad s.data.toList).length=n:=⟨_,rfl⟩;rw[hn]at HSP HFR HNT htl HE12 HE0;obtain⟨m,hm⟩:∃m,D.length=m:=⟨_,rfl⟩;rw[hm]at HMY HE12 HE0 hDl;clear ht hrr h hg hn hm hD hE hck h1 h2;go_enter Tryz.func8,Tryz.ntmps8;go_wp2_with fail;refine(show Calls _ _ _ _ _ from HCK.out).mono ?_;rintro _ w9 ⟨rfl,h9⟩;obtain rfl:=h9.symm;clear h9;go_wp2_with fail;refine(show Calls _ _ _ _ _ from HSP.out w (Below.refl _ _)).mono ?_;rintro _ w2 ⟨a,c,rfl,hr2,hb2⟩;have HR2:Hid (w2.ownsRow w.heap.size 9 1 (.slice a n c) n (sc (Ad s.data.toList))):=hr2;have HB2:Hid (Below w.heap.size w w2):=hb2;clear hr2 hb2;go_wp2_with fail;refine(show Calls _ _ _ _ _ from HFR.out w2 _ a c HB2.out HR2.out).mono ?_;rintro _ w3 ⟨hcs,hb3⟩;have HB3:Hid (Below w.heap.size w w3):=HB2.out.trans (hb3.mono HB2.out.size);have HR3:Hid (w3.ownsRow w.heap.size 9 1 (.slice a n c) n (sc (Ad s.data.toList))):=As HR2.out hb3;clear hb3;rcases hcs with⟨hno,rfl⟩|⟨hyes,rfl⟩
   ·have HNO:Hid _:=hno
    clear hno;go_wp2_with fail;refine(show Calls _ _ _ _ _ from HMY.out w3 HB3.out).mono ?_;rintro _ w4 ⟨rfl,hb4⟩;have HB4:Hid (Below w.heap.size w w4):=HB3.out.trans (hb4.mono HB3.out.size);have HR4:Hid (w4.ownsRow w.heap.size 9 1 (.slice a n c) n (sc (Ad s.data.toList))):=As HR3.out hb4;have hwp:IntKind.i64.wrap ((m:Int)+(n:Int))=(m:Int)+(n:Int):=By _ (by omega) (by omega);clear hb4
    by_cases hf:500<m+n
    ·have hle:(500:Int)<(m:Int)+(n:Int):=by omega
     have hv:E= .iface 24 (.int .i64 12):=by rw[<-HEV.out,(HE12.out HNO.out hf).1];exact Ij (by decide)
     have HDD:Hid (C3 D nm r s=D):=(HE12.out HNO.out hf).2;subst hv;clear hf;go_wp2;go_ret;exact⟨rfl,by rw[HDD.out];exact HP.out w4 HB4.out,Ab HB4.out _⟩
    ·have hle:¬(500:Int)<(m:Int)+(n:Int):=by omega
     have hz:=HE0.out HNO.out hf;have hv:E= .nilIface:=by rw[<-HEV.out,hz];rfl
     have HN2:Hid _:=HNT.out hz;subst hv;clear hf hz;go_wp2_with fail;refine(show Calls _ _ _ _ _ from HN2.out w4 _ a c HB4.out (Nat.le_refl _) HR4.out).mono ?_;rintro _ w5 ⟨rfl,g1,g2⟩;have HG1:Hid (PrS bf bt bp bd bm (N+800) 21000 (InD (C3 D nm r s)) w5):=g1;have HG2:Hid (Aa (fun b=>b=bp\/b=bm) w w5):=(Ab HB4.out _).trans g2 (fun _ e=> .inl e);clear g1 g2;go_wp2;go_ret;exact⟨rfl,HG1.out,HG2.out⟩
   ·have hv:E= .iface 24 (.int .i64 9):=by rw[<-HEV.out,(HE9.out hyes).1];exact Ij (by decide)
    have HDD:Hid (C3 D nm r s=D):=(HE9.out hyes).2;subst hv;clear hyes;go_wp2;go_ret;exact⟨rfl,by rw[HDD.out];exact HP.out w3 HB3.out,Ab HB3.out _⟩
 ·have he:Co D nm r s=CV nm r:=by unfold Co;rw[if_neg h1]
  have hd:C3 D nm r s=D:=by unfold C3;rw[he,if_neg h1]
  have hck:=KA nm r w;rw[Ij h1]at hck;rw[he,hd,Ij h1];have hP:PrS bf bt bp bd bm (N+800) 21000 (InD D) w:=h.mono (by omega) (Nat.le_refl _);have HP:Hid _:=hP;have HCK:Hid _:=hck;clear he hd hP h hD hg hck h1;go_enter Tryz.func8,Tryz.ntmps8;go_wp2_with fail;refine(show Calls _ _ _ _ _ from HCK.out).mono ?_;rintro _ w9 ⟨rfl,h9⟩;obtain rfl:=h9.symm;clear h9;go_wp2;go_ret;exact⟨rfl,HP.out,Aa.refl _ _⟩
end
def Hd:Pl->List Pl->Pl
 |p,[]=>p
 |_,q::l=>Hd q l
theorem Hw:∀(a b:List Pl) (p:Pl),Al p (a++b)=(Al p a && Al (Hd p a) b)
 | [],b,p=>by simp[Al,Hd]
 |q::a,b,p=>by rw[List.cons_append,Al,Al,Hw a b q,Hd,Bool.and_assoc]
theorem Kk:∀(l:List Pl) (p:Pl),0<l.length->Hd p l∈l
 | [],_,h=>absurd h (by simp)
 | [q],_,_=>by simp[Hd]
 |q::q'::l,_,_=>by
  rw[Hd];exact List.mem_cons_of_mem _ (Kk (q'::l) q (by simp))
theorem GZ {nm wd:ByteArray}:∀(L:List Pc) (p:Pl),Xg L->(∀c∈L,c.Ok)->0<=p.r->(∀c∈L,c.n=nm->c.w=wd->p.r<(c.r:Int))->Al p (C5 nm wd L)=true
 | [],_,_,_,_,_=>rfl
 |c::l,p,ho,hL,h0,hp=>by
  unfold Xg at ho;rw[List.pairwise_cons]at ho;unfold C5
  by_cases e:c.n=nm/\c.w=wd
  ·rw[if_pos e,Hw,Bool.and_eq_true]
   have hok:=hL c (by simp);have hl:=hok.ris.row _ (Kk c.l p hok.pos);refine⟨JE hok.lo hok.hi c.l p hok.ris (.inr ⟨h0,hp c (by simp) e.1 e.2⟩),GZ l _ ho.2 (fun d hd=>hL d (by simp[hd])) (by rw[hl.1];omega) (fun d hd hn hw=> ?_)⟩;rw[hl.1];rcases ho.1 d hd with h|⟨_,h|⟨_,h⟩⟩
   ·rw[e.1,hn,AM]at h;cases h
   ·rw[e.2,hw,AM]at h;cases h
   ·omega
  ·rw[if_neg e]
   exact GZ l p ho.2 (fun d hd=>hL d (by simp[hd])) h0 (fun d hd=>hp d (by simp[hd]))
theorem Kc {nm wd:ByteArray} {p:Pl}:∀ {L:List Pc},p∈C5 nm wd L↔∃c∈L,c.n=nm/\c.w=wd/\p∈c.l
 | []=>by simp[C5]
 |c::l=>by
  unfold C5
  by_cases e:c.n=nm/\c.w=wd
  ·rw[if_pos e,List.mem_append,Kc (L:=l)]
   constructor
   ·rintro(h|⟨d,hd,h⟩)
    ·exact⟨c,by simp,e.1,e.2,h⟩
    ·exact⟨d,by simp[hd],h⟩
   ·rintro⟨d,hd,h1,h2,h3⟩
    rcases List.mem_cons.1 hd with rfl|hd
    ·exact .inl h3
    ·exact .inr ⟨d,hd,h1,h2,h3⟩
  ·rw[if_neg e,Kc (L:=l)]
   constructor
   ·rintro⟨d,hd,h⟩;exact⟨d,by simp[hd],h⟩
   ·rintro⟨d,hd,h1,h2,h3⟩
    rcases List.mem_cons.1 hd with rfl|hd
    ·exact absurd ⟨h1,h2⟩ e
    ·exact⟨d,hd,h1,h2,h3⟩
structure LO (D:List Nd) (nm wd:ByteArray) (ps:List Pl):Prop where
 right:DB ps=true
 mem:∀p,p∈ps↔∃d∈D,d.n=nm/\d.w=wd/\p=d.pl
 len:ps.length<=D.length
theorem XE {D:List Nd} {L:List Pc} (hD:Nts D) (h:LsD D L) (nm wd:ByteArray):LO D nm wd (C5 nm wd L):=by
 refine⟨GZ L ⟨0,0⟩ (h.ord hD.ok) (h.ok hD.ok) (Int.le_refl _) (fun c hc _ _=>by have:=(h.ok hD.ok c hc).lo;show(0:Int)<(c.r:Int);omega),fun p=> ?_,by rw[<-h.cnt hD.ok];exact Hy nm wd L⟩;rw[Kc];constructor
 ·rintro⟨c,hc,h1,h2,h3⟩
  obtain⟨d,hd,rfl⟩:=h.of c hc;obtain⟨e,he,a1,a2,a3,rfl⟩:=Ib.1 h3;exact⟨e,he,a1.trans h1,a2.trans h2,rfl⟩
 ·rintro⟨d,hd,h1,h2,rfl⟩
  exact⟨pcD D d,h.all d hd,h1,h2,Ib.2 ⟨d,hd,rfl,rfl,rfl,rfl⟩⟩
theorem Im {α:Type} [Inhabited α] [DecidableEq α] {d d':Array α} {m:Nat} (h:∀j,j<m->d[j]! =d'[j]!):Lib.compactUpTo d m=Lib.compactUpTo d' m:=by
 induction m with
 |zero=>rfl
 |succ m ih=>
  rw[Lib.compactUpTo_succ,Lib.compactUpTo_succ,ih (fun j hj=>h j (by omega)),h m (by omega)]
  have:Lib.keeps d m=Lib.keeps d' m:=by
   unfold Lib.keeps;rw[h m (by omega),h (m-1) (by omega)]
  rw[this]
theorem ME {α:Type} [Inhabited α] [DecidableEq α] (zs:List α) (z:α):Lib.compact (zs++[z])=Lib.compact zs++(if zs.getLast? =some z then []else [z]):=by
 unfold Lib.compact;rw[List.length_append,List.length_singleton,Lib.compactUpTo_succ]
 have hg:∀j,j<zs.length->(zs++[z]).toArray[j]! =zs.toArray[j]! :=fun j hj=>by
  simp[List.getElem!_eq_getElem?_getD,List.getElem?_append_left hj]
 have hz:(zs++[z]).toArray[zs.length]! =z:=by simp
 rw[Im hg,hz];congr 1;unfold Lib.keeps;rw[hz]
 by_cases h0:zs.length=0
 ·have:zs=[]:=List.length_eq_zero_iff.1 h0
  subst this;simp
 ·rw[hg (zs.length-1) (by omega)]
  have hl:zs.getLast? =some (zs.toArray[zs.length-1]!):=by
   rw[List.getLast?_eq_getElem?];have hlt:zs.length-1<zs.length:=by omega
   simp[List.getElem!_eq_getElem?_getD,List.getElem?_eq_getElem hlt]
  rw[hl];generalize zs.toArray[zs.length-1]! =y
  by_cases e:y=z
  ·rw[decide_eq_false (fun h=>by rcases h with h|h;exact h0 h;exact h e.symm),if_neg (by decide),if_pos (by rw[e])]
  ·rw[decide_eq_true (.inr (fun h=>e h.symm)),if_pos rfl,if_neg (fun e2=>e (Option.some.inj e2))]
theorem Vq:FN []=[]:=rfl
theorem SO (L:List ByteArray) (c:ByteArray):FN (L++[c])=FN L++(if L.getLast? =some c then []else [c]):=by
 unfold FN;rw[List.map_append,List.map_singleton,ME,List.map_append];congr 1;rw[List.getLast?_map]
 by_cases e:L.getLast? =some c
 ·rw[if_pos e,if_pos (by rw[e];rfl)]
  rfl
 ·rw[if_neg e,if_neg]
  ·rfl
  ·intro e2
   cases h:L.getLast? with
   |none=>rw[h]at e2;cases e2
   |some x=>
    rw[h]at e2 e;exact e (by rw[Dy (Option.some.inj e2)])
theorem QV {L:List ByteArray} (h:L.Pairwise (fun a b=>bl a b=true\/a=b)):∀k,k<=L.length->(∀x,x∈FN (L.take k)↔x∈L.take k)/\(FN (L.take k)).Pairwise (fun a b=>bl a b=true)
 |0,_=>by rw[List.take_zero,Vq];exact⟨fun x=>Iff.rfl,List.Pairwise.nil⟩
 |k+1,hk=>by
  obtain⟨i1,i2⟩:=QV h k (by omega);have hkl:k<L.length:=by omega
  have ho:(L.take k++[L[k]]).Pairwise (fun a b=>bl a b=true\/a=b):=by
   rw[<-List.take_succ_eq_append_getElem hkl];exact h.sublist (List.take_sublist _ _)
  rw[List.take_succ_eq_append_getElem hkl];generalize L[k]=c at *;generalize L.take k=P at *;rw[SO];rw[List.pairwise_append]at ho;obtain⟨o1,_,o3⟩:=ho
  by_cases e:P.getLast? =some c
  ·rw[if_pos e,List.append_nil]
   refine⟨fun x=> ?_,i2⟩;rw[i1 x,List.mem_append,List.mem_singleton];refine⟨.inl,fun hx=> ?_⟩;rcases hx with hx|rfl
   ·exact hx
   ·exact List.mem_of_getLast? e
  ·rw[if_neg e]
   refine⟨fun x=>by rw[List.mem_append,List.mem_append,i1 x],?_⟩;rw[List.pairwise_append];refine⟨i2,List.pairwise_singleton _ _,fun a ha b hb=> ?_⟩;obtain rfl:=List.mem_singleton.1 hb;have ha':=(i1 a).1 ha;rcases o3 a ha' b (by simp)with h1|rfl
   ·exact h1
   ·rcases List.eq_nil_or_concat P with rfl|⟨P0,x,rfl⟩
    ·cases ha'
    ·rw[List.concat_eq_append]at *
     rw[List.getLast?_append]at e;have hx:x≠a:=fun e2=>e (by simp[e2]);rcases List.mem_append.1 ha' with hm|hm
     ·rw[List.pairwise_append]at o1
      have q1:=o1.2.2 a hm x (by simp);have q2:=o3 x (by simp) a (by simp);rcases q1 with q1|q1
      ·rcases q2 with q2|q2
       ·rw[KB q1]at q2;cases q2
       ·exact absurd q2 hx
      ·exact absurd q1.symm hx
     ·exact absurd (List.mem_singleton.1 hm).symm hx
structure Rc (D:List Nd) (nm s:ByteArray) (xs:List ByteArray):Prop where
 ord:xs.Pairwise (fun a b=>bl a b=true)
 mem:∀x,x∈xs↔∃d∈D,d.n=nm/\d.w=x/\Lib.hasPrefix x.data.toList s.data.toList=true
 len:xs.length<=D.length
theorem Vr (ws:List ByteArray):(FN ws).length<=ws.length:=by
 unfold FN;rw[List.length_map];exact Nat.le_trans (K4 _) (by rw[List.length_map];exact Nat.le_refl _)
theorem Yk {D:List Nd} {L:List Pc} (hD:Nts D) (h:LsD D L) (nm s:ByteArray):Rc D nm s (FN (Cn nm s L)):=by
 have hp:(Cn nm s L).Pairwise (fun a b=>bl a b=true\/a=b):=by
  unfold Cn;rw[List.pairwise_map];refine List.Pairwise.imp_of_mem (fun {a b} ha hb hab=> ?_) ((h.ord hD.ok).filter (isB nm s));have h1:=(List.mem_filter.1 ha).2;have h2:=(List.mem_filter.1 hb).2;unfold isB at h1 h2;rw[Bool.and_eq_true,decide_eq_true_eq]at h1 h2;rcases hab with hab|⟨_,hab|⟨hab,_⟩⟩
  ·rw[h1.1,h2.1,AM]at hab;cases hab
  ·exact .inl hab
  ·exact .inr hab
 obtain⟨c1,c2⟩:=QV hp (Cn nm s L).length (Nat.le_refl _);rw[List.take_length]at c1 c2;refine⟨c2,fun x=> ?_,?_⟩
 ·rw[c1 x]
  unfold Cn;constructor
  ·intro hx
   obtain⟨c,hc,rfl⟩:=List.mem_map.1 hx;obtain⟨h1,h2⟩:=List.mem_filter.1 hc;obtain⟨d,hd,rfl⟩:=h.of c h1;unfold isB at h2;rw[Bool.and_eq_true,decide_eq_true_eq]at h2;exact⟨d,hd,h2.1,rfl,h2.2⟩
  ·rintro⟨d,hd,h1,rfl,h2⟩
   refine List.mem_map.2 ⟨pcD D d,List.mem_filter.2 ⟨h.all d hd,?_⟩,rfl⟩;unfold isB;rw[Bool.and_eq_true,decide_eq_true_eq];exact⟨h1,h2⟩
 ·have a1:=Vr (Cn nm s L)
  have a2:=O6 nm s L;have a3:=h.len hD.ok;omega
section
variable {bf bt bp bd bm N:Nat} {w:World} {D:List Nd}
end
theorem Nu:∀(l:List Pl) (p:Pl),Al p l=true->(∀q∈l,BO p q<0)/\l.Pairwise (fun x y=>BO x y<0)
 | [],_,_=>⟨fun _ h=>(by cases h),List.Pairwise.nil⟩
 |q::l,p,h=>by
  rw[Al,Bool.and_eq_true]at h;obtain⟨h1,h2⟩:=h;unfold CT at h1;rw[Bool.and_eq_true,decide_eq_true_eq]at h1;obtain⟨i1,i2⟩:=Nu l q h2;refine⟨fun x hx=> ?_,List.Pairwise.cons i1 i2⟩;rcases List.mem_cons.1 hx with rfl|hx
  ·exact h1.2
  ·have a:=h1.2
   have b:=i1 x hx;unfold BO Io at a b ⊢;split at a<;>split at b<;>split<;>(repeat' split at a)<;>(repeat' split at b)<;>(repeat' split)<;>omega
theorem O2 (p:Pl):¬BO p p<0:=by
 unfold BO Io;rw[if_pos rfl,if_neg (Int.lt_irrefl _),if_neg (Int.lt_irrefl _)];decide
theorem PS {p q:Pl} (h:BO p q<0):¬BO q p<0:=by
 unfold BO Io at h ⊢;split at h<;>split<;>(repeat' split at h)<;>(repeat' split)<;>omega
theorem UX {α:Type} {R:α->α->Prop} (irr:∀a,¬R a a) (asy:∀ {a b},R a b->¬R b a):∀(l m:List α),l.Pairwise R->m.Pairwise R->(∀x,x∈l↔x∈m)->l=m
 | [],[],_,_,_=>rfl
 | [],y::m,_,_,h=>by have:=(h y).2 (by simp);cases this
 |x::l,[],_,_,h=>by have:=(h x).1 (by simp);cases this
 |x::l,y::m,hl,hm,h=>by
  rw[List.pairwise_cons]at hl hm
  have e:x=y:=by
   rcases List.mem_cons.1 ((h x).1 (by simp))with h1|h1
   ·exact h1
   ·rcases List.mem_cons.1 ((h y).2 (by simp))with h2|h2
    ·exact h2.symm
    ·exact absurd (hm.1 x h1) (asy (hl.1 y h2))
  subst e;rw[UX irr asy l m hl.2 hm.2 (fun z=> ?_)];constructor
  ·intro hz
   rcases List.mem_cons.1 ((h z).1 (by simp[hz]))with rfl|h1
   ·exact absurd (hl.1 z hz) (irr z)
   ·exact h1
  ·intro hz
   rcases List.mem_cons.1 ((h z).2 (by simp[hz]))with rfl|h1
   ·exact absurd (hm.1 z hz) (irr z)
   ·exact h1
theorem LO.same {D:List Nd} {nm wd:ByteArray} {ps qs:List Pl} (h:LO D nm wd ps) (hr:qs.Pairwise (fun x y=>BO x y<0)) (hm:∀p,p∈qs↔∃d∈D,d.n=nm/\d.w=wd/\p=d.pl):ps=qs:=
 UX (R:=fun x y=>BO x y<0) O2 PS ps qs (Nu ps _ h.right).2 hr (fun x=>(h.mem x).trans (hm x).symm)
end
section
open Go.RowKit
def CQ:List Pl->List Pl->List Pl
 | [],b=>b
 |x::a,[]=>x::a
 |x::a,y::b=>if BO x y<0 then x::CQ a (y::b)else if 0<BO x y then y::CQ (x::a) b else x::CQ a b
termination_by a b=>a.length+b.length
decreasing_by all_goals (simp only[List.length_cons];omega)
theorem K9 (a b:Int):(Io a b= -1/\a<b)\/(Io a b=0/\a=b)\/(Io a b=1/\b<a):=by
 unfold Io;split
 ·exact .inl ⟨rfl,by assumption⟩
 ·split
  ·exact .inr (.inr ⟨rfl,by assumption⟩)
  ·exact .inr (.inl ⟨rfl,by omega⟩)
def LtP (p q:Pl):Prop:=p.r<q.r\/(p.r=q.r/\p.a<q.a)
theorem Hj (p q:Pl):(BO p q= -1/\LtP p q)\/(BO p q=0/\p=q)\/(BO p q=1/\LtP q p):=by
 obtain⟨r,a⟩:=p;obtain⟨r',a'⟩:=q;unfold BO LtP;simp only
 by_cases h:r=r'
 ·subst h
  rw[if_pos rfl];rcases K9 a a' with⟨e,l⟩|⟨e,l⟩|⟨e,l⟩
  ·exact .inl ⟨e,.inr ⟨rfl,l⟩⟩
  ·exact .inr (.inl ⟨e,by rw[l]⟩)
  ·exact .inr (.inr ⟨e,.inr ⟨rfl,l⟩⟩)
 ·rw[if_neg h]
  rcases K9 r r' with⟨e,l⟩|⟨e,l⟩|⟨e,l⟩
  ·exact .inl ⟨e,.inl l⟩
  ·exact absurd l h
  ·exact .inr (.inr ⟨e,.inl l⟩)
theorem U6 {x y:Pl} {a b:List Pl} (h:BO x y= -1):CQ (x::a) (y::b)=x::CQ a (y::b):=by rw[CQ,if_pos (by omega)]
theorem U7 {x y:Pl} {a b:List Pl} (h:BO x y=1):CQ (x::a) (y::b)=y::CQ (x::a) b:=by rw[CQ,if_neg (by omega),if_pos (by omega)]
theorem U8 {x y:Pl} {a b:List Pl} (h:BO x y=0):CQ (x::a) (y::b)=x::CQ a b:=by rw[CQ,if_neg (by omega),if_neg (by omega)]
def InP (w:World) (v:Value) (xs:List Pl):Prop:=∃a cap,v= .slice a xs.length cap/\xs.length<=cap/\FI w a xs.length xs/\(a=none->cap=0)
theorem InP.below {w w':World} {v:Value} {xs:List Pl} (h:InP w v xs) (hb:Below w.heap.size w w'):InP w' v xs:=by
 obtain⟨a,cap,h1,h2,h3,h4⟩:=h;exact⟨a,cap,h1,h2,h3.below hb,h4⟩
theorem InP.of_own {w:World} {B:Nat} {v:Value} {xs:List Pl} (h:w.ownsRow B 81 2 v xs.length (plc xs)) (hl:xs.length<=1000000):InP w v xs:=by
 obtain⟨a,cap,rfl,hr,hn⟩:=ER h hl;refine⟨a,cap,rfl,?_,hr,hn⟩;rcases h.2 with⟨e,h0⟩|⟨g,c,cur,e,_,_,hc,_⟩
 ·omega
 ·cases e;exact hc
theorem InP.nil (w:World):InP w (.slice none 0 0) []:=⟨none,0,rfl,Nat.le_refl _,⟨rfl,by simp,.inl rfl⟩,fun _=>rfl⟩
theorem InP.tail {w:World} {b o n c:Nat} {x:Pl} {xs:List Pl} (h:InP w (.slice (some ⟨b,o,none⟩) (n+1) c) (x::xs)):InP w (.slice (if c=1 then some ⟨b,o,none⟩else some ⟨b,o+2,none⟩) n (c-1)) xs:=by
 obtain⟨a,cap,h1,h2,⟨_,hm,hr⟩,_⟩:=h
 cases h1
 simp only[List.length_cons]at h2 hm;refine⟨_,_,rfl,by omega,⟨rfl,by omega,?_⟩,fun e=>by split at e<;>cases e⟩
 by_cases hc:c=1
 ·exact .inl (List.length_eq_zero_iff.1 (by omega))
 ·rw[if_neg hc]
  rcases hr with hr|⟨b',o',e,hb,hrow⟩
  ·cases hr
  ·cases e
   refine .inr ⟨b,o+2,rfl,hb,fun i hi=> ?_⟩;have:=hrow (i+1) (by simp;omega);simp only[List.getElem_cons_succ]at this;rw[show o+2+i * 2=o+(i+1) * 2 by omega];exact this
def A4:Value->Nat
 | .slice _ n _=>n
 |_=>0
end
end Go.Proofs.YtgfldnaahojnlaaGreatDoor
