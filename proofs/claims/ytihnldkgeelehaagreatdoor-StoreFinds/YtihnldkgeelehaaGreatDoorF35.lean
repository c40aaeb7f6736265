/- StoreFinds: part 35. -/
import Derived.Test.YtihnldkgeelehaaGreatDoorF34
set_option maxRecDepth 100000
set_option maxHeartbeats 4000000
namespace Go.Proofs.YtihnldkgeelehaaGreatDoor
section
open Go.RowKit Go.Maps
section
variable {bf bt bp:Nat} {bd:Sts} {bm N Z:Nat} {up:Nat->Bool} {V:Pst} {T:Tr} {M M':Pr->Prop} {w w':World}
theorem PrS.only {S:Nat->Prop} (h:PrS bf bt bp bd bm N Z M w) (ho:Aa S w w') (h1:¬S bf) (h2:∀r,r<4->¬S (bd.tb r)) (h3:¬S bp) (h4:¬S bm) (h5:¬S bd.bd):PrS bf bt bp bd bm N Z M w':=by
 obtain⟨N1,up,V,T,k1,k2,k3⟩:=h;exact⟨N1,up,V,T,k1,k2.only ho h1 h2 h3 h4 h5,k3⟩
theorem PrS.lt (h:PrS bf bt bp bd bm N Z M w):bf<w.heap.size/\(∀r,r<4->bd.tb r<w.heap.size)/\bp<w.heap.size/\bm<w.heap.size/\bd.bd<w.heap.size:=by
 obtain⟨N1,up,V,T,k1,k2,k3⟩:=h;obtain⟨T4,hr,hf⟩:=k2.fo;exact⟨k2.c.lt,fun r hr=>(hf.t r hr).lt,k2.tw.lt.1,k2.tw.lt.2.1,k2.tw.lt.2.2⟩
theorem PrS.above {n:Nat} (h:PrS bf bt bp bd bm N Z M w) (ho:Aa (fun b=>n<=b) w w') (hn:bf<n/\(∀r,r<4->bd.tb r<n)/\bp<n/\bm<n/\bd.bd<n):PrS bf bt bp bd bm N Z M w':=by
 obtain⟨h1,h2,h3,h4,h5⟩:=hn;exact h.only ho (by omega) (fun r hr=>by have:=h2 r hr;omega) (by omega) (by omega) (by omega)
theorem UZ (h:PrS bf bt bp bd bm N Z M w) {key:ByteArray} (hk:∀y,M y->y.k≠key):
  Calls Tryz.prog 77 #[.pointer (some ⟨bt,0,none⟩),.string key] w fun e w'=>e= .returned (.tuple #[.string ⟨#[]⟩,.iface 101 (.int .i64 7)])/\Below w.heap.size w w':=by
 obtain⟨N1,up,V,T,k1,k2,k3,k4⟩:=h;refine(LN k2.t k2.tw k2.a key).mono ?_;rintro e w' ⟨hg,hb⟩;rcases hg with⟨x,hx,hxk,_⟩|⟨_,rfl⟩
 ·exact absurd hxk (hk x ((k4 x).1 hx))
 ·exact⟨rfl,hb⟩
theorem T8 (h:PrS bf bt bp bd bm N Z M w) {y:Pr} (hy:M y):
  Calls Tryz.prog 77 #[.pointer (some ⟨bt,0,none⟩),.string y.k] w fun e w'=>∃it,e= .returned (.tuple #[.string it,.nilIface])/\Below w.heap.size w w':=by
 obtain⟨N1,up,V,T,k1,k2,k3,k4⟩:=h;refine(LN k2.t k2.tw k2.a y.k).mono ?_;rintro e w' ⟨hg,hb⟩;rcases hg with⟨x,hx,hxk,rfl⟩|⟨hno,_⟩
 ·exact⟨_,rfl,hb⟩
 ·exact absurd rfl (hno y ((k4 y).2 hy))
theorem VE (h:PrS bf bt bp bd bm N Z M w) {key:ByteArray} (hk:∀y,M y->y.k≠key) (hN:N+60<1000000):
  Calls Tryz.prog 79 #[.pointer (some ⟨bt,0,none⟩),.string key] w fun e w'=>e= .returned (.iface 101 (.int .i64 7))/\Below w.heap.size w w':=by
 obtain⟨N1,up,V,T,k1,k2,k3,k4⟩:=h;have hc:=k2.count;refine(J6 k2.t k2.tw k2.ne k2.a key (by omega) (by omega)).mono ?_;rintro e w' (⟨_,rfl,hb⟩|⟨A,y,C,ha,hyk,_⟩)
 ·exact⟨rfl,hb⟩
 ·exact absurd hyk (hk y ((k4 y).1 (by rw[ha];simp)))
set_option maxHeartbeats 2000000
theorem Qq {nm:ByteArray} {ws:List ByteArray} {v:Value} {r Bx:Nat} (hnm:nm.size<=1000) (h:PrS bf bt bp bd bm N Z M w) (hg:HG w) (hws:∀x∈ws,x.size<=100) (hl:ws.length<=100000) (hrow:w.ownsRow Bx 9 1 v ws.length (sc ws)):
  Calls Tryz.prog 127 #[.pointer (some ⟨bf,0,none⟩),.string nm,.int .i64 (r:Nat),v] w fun e w'=>((∀x∈ws,∀y,M y->y.k≠Bu nm x r)/\e= .returned .nilIface\/(∃x∈ws,∃y,M y/\y.k=Bu nm x r)/\e= .returned (.iface 101 (.int .i64 9)))/\Below w.heap.size w w':=by
 obtain⟨a9,c9,hv9⟩:=Aj hrow;obtain⟨n,hn⟩:∃n,ws.length=n:=⟨_,rfl⟩;have HN:Hid _:=hn;rw[hn]at hv9 hl;subst hv9;have HROW:Hid _:=hrow;have HWS:Hid _:=hws;have HP:Hid (PrS bf bt bp bd bm N Z M w):=h;have HGG:Hid (HG w):=hg;clear hrow hws h hg hn;go_enter Tryz.func127,Tryz.ntmps127;go_wp2_with fail;go_loopw [15] (fun iv wr=>∃(i:Nat),i<=n/\iv= .int .i64 (i:Nat)/\Hid (Below w.heap.size w wr)/\Hid (∀x∈ws.take i,∀y,M y->y.k≠Bu nm x r)) (fun iv _=>n+1-(intOf iv).toNat)
 case atStart=>exact⟨0,Nat.zero_le _,rfl,Below.refl _ _,(show ∀x∈ws.take 0,∀y,M y->y.k≠Bu nm x r from fun x hx=>by rw[List.take_zero]at hx;cases hx)⟩
 case round=>
  obtain⟨i,hi,rfl,HB,HT⟩:=hrel
  by_cases hlt:i<n
  ·have h1:(i:Int)<(n:Int):=by omega
   have hil:i<ws.length:=by rw[HN.out];exact hlt
   obtain⟨g,cap,hv,hcell⟩:=Ln (Ag HROW.out HB.out) hil;rw[HN.out]at hv
   cases hv
   have hix:=fun wx=>Hd g n c9 i hlt wx;obtain⟨wd,hwd⟩:∃wd,ws[i]=wd:=⟨_,rfl⟩;have hws1:wd.size<=100:=by have:=HWS.out _ (List.getElem_mem hil);rw[hwd]at this;exact this
   have HMW:Hid (wd∈ws):=by rw[<-hwd];exact List.getElem_mem hil
   have HT2:Hid ((∀y,M y->y.k≠Bu nm wd r)->∀x∈ws.take (i+1),∀y,M y->y.k≠Bu nm x r):=fun hq x hx=>by
    rw[List.take_succ_eq_append_getElem hil,List.mem_append,List.mem_singleton]at hx;rcases hx with hx|hx
    ·exact HT.out x hx
    ·rw[hx,hwd];exact hq
   rw[hwd]at hcell;clear hwd;have D0:Hid (wr.cell? ⟨bf,0,none⟩=some (.pointer (some ⟨bt,0,none⟩))):=(HP.out.below HB.out).own.cell;have HPR:Hid (PrS bf bt bp bd bm N Z M wr):=HP.out.below HB.out;have HGR:Hid (HG wr):=HGG.out.below HB.out HGG.out.lt
   by_cases hhit:∃y,M y/\y.k=Bu nm wd r
   ·have HHT:Hid (∃x∈ws,∃y,M y/\y.k=Bu nm x r):=⟨wd,HMW.out,hhit⟩
    have HGY:Hid (∀wx,PrS bf bt bp bd bm N Z M wx->Calls Tryz.prog 77 #[.pointer (some ⟨bt,0,none⟩),.string (Bu nm wd r)] wx fun e w'=>∃it,e= .returned (.tuple #[.string it,.nilIface])/\Below wx.heap.size wx w'):=fun wx hx=>by
     obtain⟨y,hy,hyk⟩:=hhit;rw[<-hyk];exact T8 hx hy
    clear hhit HT HT2;go_wp2_with fail;clear hcell hix
    go_region_held3 (fun wx=>wx.cell? ⟨bf,0,none⟩=some (.pointer (some ⟨bt,0,none⟩))) (first|exact D0.out|exact D1.out|exact D2.out) (first|(go_at_call 179;refine(Fe nm wd r hnm (by omega) _).mono ?_;rintro _ w3 ⟨rfl,hb3⟩;have D1:Hid (w3.cell? ⟨bf,0,none⟩=some (.pointer (some ⟨bt,0,none⟩))):=Ae hb3 D0.out;have HB3:Hid (Below wr.heap.size wr w3):=(Below.refl _ wr).drew.trans hb3;clear hb3)|(go_at_call 77;refine(show Calls _ _ _ _ _ from HGY.out _ (HPR.out.below HB3.out)).mono ?_;rintro _ w4 ⟨it4,rfl,hb4⟩;have D2:Hid (w4.cell? ⟨bf,0,none⟩=some (.pointer (some ⟨bt,0,none⟩))):=Ae hb4 D1.out;have HB4:Hid (Below wr.heap.size wr w4):=HB3.out.trans (hb4.mono HB3.out.size);clear hb4))
    go_wp2_with fail;refine(Mg _).mono ?_;rintro _ w5 ⟨rfl,h5⟩;obtain rfl:=h5.symm;clear h5;have HB5:Hid (Below w.heap.size w w4):=HB.out.trans (HB4.out.mono HB.out.size);go_wp2;go_ret;exact⟨.inr ⟨HHT.out,rfl⟩,HB5.out⟩
   ·have HNO1:Hid (∀y,M y->y.k≠Bu nm wd r):=fun y hy e=>hhit ⟨y,hy,e⟩
    clear hhit;go_wp2_with fail;clear hcell hix
    go_region_held3 (fun wx=>wx.cell? ⟨bf,0,none⟩=some (.pointer (some ⟨bt,0,none⟩))) (first|exact D0.out|exact D1.out|exact D2.out) (first|(go_at_call 179;refine(Fe nm wd r hnm (by omega) _).mono ?_;rintro _ w3 ⟨rfl,hb3⟩;have D1:Hid (w3.cell? ⟨bf,0,none⟩=some (.pointer (some ⟨bt,0,none⟩))):=Ae hb3 D0.out;have HB3:Hid (Below wr.heap.size wr w3):=(Below.refl _ wr).drew.trans hb3;clear hb3)|(go_at_call 77;refine(UZ (HPR.out.below HB3.out) HNO1.out).mono ?_;rintro _ w4 ⟨rfl,hb4⟩;have D2:Hid (w4.cell? ⟨bf,0,none⟩=some (.pointer (some ⟨bt,0,none⟩))):=Ae hb4 D1.out;have HB4:Hid (Below wr.heap.size wr w4):=HB3.out.trans (hb4.mono HB3.out.size);clear hb4))
    go_wp2_with fail;refine(Mh 7 _ (HGR.out.below HB4.out HGR.out.lt)).mono ?_;rintro _ w5 ⟨rfl,hb5⟩;have HB5:Hid (Below w.heap.size w w5):=(HB.out.trans (HB4.out.mono HB.out.size)).trans (hb5.mono (Nat.le_trans HB.out.size HB4.out.size));clear hb5;go_wp2_with fail;go_roundw
    case rel=>exact⟨i+1,by omega,by go_num,HB5,HT2.out HNO1.out⟩
    case measure=>simp[intOf];omega
  ·have h1:¬(i:Int)<(n:Int):=by omega
   obtain rfl:n=i:=by omega
   go_wp2;go_ret;exact⟨.inl ⟨fun x hx=>HT.out x (by rw[List.take_of_length_le (by rw[HN.out];exact Nat.le_refl _)];exact hx),rfl⟩,HB.out⟩
end
structure Bx3 (b0 bf:Nat) (nm:ByteArray) (r:Nat) (w:World):Prop where
 f:Ai b0 (.pointer (some ⟨bf,0,none⟩)) w
 n:Ai (b0+1) (.string nm) w
 r:Ai (b0+2) (.int .i64 (r:Nat)) w
section
variable {b0 bf bt bp:Nat} {bd:Sts} {bm N Z r:Nat} {M:Pr->Prop} {w w':World} {nm:ByteArray}
theorem Bx3.only {S:Nat->Prop} (h:Bx3 b0 bf nm r w) (ho:Aa S w w') (hs:∀i,S i->i<b0\/b0+3<=i):Bx3 b0 bf nm r w':=
 ⟨h.f.only ho (fun e=>by have:=hs _ e;omega),h.n.only ho (fun e=>by have:=hs _ e;omega),h.r.only ho (fun e=>by have:=hs _ e;omega)⟩
theorem Bx3.below (h:Bx3 b0 bf nm r w) (hb:Below w.heap.size w w'):Bx3 b0 bf nm r w':=⟨h.f.below hb,h.n.below hb,h.r.below hb⟩
def BxS (b0 bf bt:Nat) (nm:ByteArray) (r:Nat) (wx:World):Prop:=wx.cell? ⟨b0,0,none⟩=some (.pointer (some ⟨bf,0,none⟩))/\wx.cell? ⟨bf,0,none⟩=some (.pointer (some ⟨bt,0,none⟩))/\wx.cell? ⟨b0+1,0,none⟩=some (.string nm)/\wx.cell? ⟨b0+2,0,none⟩=some (.int .i64 (r:Nat))
theorem Bx3.cells (h:Bx3 b0 bf nm r w) (hp:PrS bf bt bp bd bm N Z M w):BxS b0 bf bt nm r w:=⟨h.f.cell,hp.own.cell,h.n.cell,h.r.cell⟩
theorem PrS.only_key (h:PrS bf bt bp bd bm N Z M w) {x y:Pr} (hx:M x) (hy:M y) (e:x.k=y.k):x=y:=by
 obtain⟨N1,up,V,T,k1,k2,k3,k4⟩:=h;have hx':=(k4 x).2 hx;have hy':=(k4 y).2 hy;obtain⟨A,C,hall⟩:=List.append_of_mem hy';have hs:=k2.sorted;rw[hall]at hs hx';rw[List.pairwise_append,List.pairwise_cons]at hs;rcases List.mem_append.1 hx' with hm|hm
 ·have:=hs.2.2 x hm y (by simp)
  rw[e,Ar]at this;cases this
 ·rcases List.mem_cons.1 hm with rfl|hm
  ·rfl
  ·have:=hs.2.1.1 x hm
   rw[e,Ar]at this;cases this
set_option maxHeartbeats 2000000
theorem Tn {c:Pc} (hc:c.Ok) (h:PrS bf bt bp bd bm N Z M w) (hb:Bx3 b0 bf c.n c.r w) (h0:bp<b0/\bm<b0) {a:Option Addr} {n cp B:Nat} (hrow:w.ownsRow B 118 2 (.slice a n cp) c.l.length (plc c.l)) (hn:n=c.l.length) (hZ:Z+61<=30000) (hN:N+60<1000000):
  Calls Tryz.prog 182 #[.string c.w,.slice a n cp,.pointer (some ⟨b0,0,none⟩),.pointer (some ⟨b0+1,0,none⟩),.pointer (some ⟨b0+2,0,none⟩)] w fun e w'=>e= .returned .nilIface/\PrS bf bt bp bd bm (N+40) (Z+61) (fun y=>y=c.pr\/(M y/\y.k≠c.pr.k)) w'/\Aa (fun b=>b=bp\/b=bm) w w':=by
 have hpk:=hc.pr;have htl:=hc.len;have hxs:=hc.w.le;have hns:=hc.n.le;obtain⟨a1,c1,e1,hR,_⟩:=Mv hrow (by omega);rw[<-hn]at e1 hR
 cases e1
 have HWR:Hid (∀wx,Below w.heap.size w wx->Calls Tryz.prog 183 #[.slice a n cp] wx fun e w'=>e= .returned (.tuple #[.string c.pr.i,.nilIface])/\Below wx.heap.size wx w'):=fun wx hb=>Po a n cp _ wx (hR.below hb) hc.right (by omega);have HPT:Hid (∀wx,PrS bf bt bp bd bm N Z M wx->Calls Tryz.prog 69 #[.pointer (some ⟨bt,0,none⟩),.string (Bu c.n c.w c.r),.string c.pr.i] wx fun e w'=>e= .returned .nilIface/\PrS bf bt bp bd bm (N+40) (Z+61) (fun y=>y=c.pr\/(M y/\y.k≠c.pr.k)) w'/\Aa (fun b=>b=bp\/b=bm) wx w'):=fun wx hh=>(V3 hh c.pr hpk.1 (by have:=hpk.2;omega) (by omega)).mono (fun e w' hq=>⟨hq.1,hq.2.1.mono (Nat.le_refl _) (by have:=hpk.2;omega),hq.2.2⟩);obtain⟨it,hit⟩:∃it,c.pr.i=it:=⟨_,rfl⟩;rw[hit]at HWR HPT;have HP:Hid (PrS bf bt bp bd bm N Z M w):=h;have HB:Hid (Bx3 b0 bf c.n c.r w):=hb;obtain⟨p0,hp0⟩:=h0;clear hit hpk htl hR hrow hn h hb hc;go_enter Tryz.func182,Tryz.ntmps182;go_wp2_with fail;refine(show Calls _ _ _ _ _ from HWR.out w (Below.refl _ _)).mono ?_;rintro _ w2 ⟨rfl,hb2⟩;have HP2:Hid (PrS bf bt bp bd bm N Z M w2):=HP.out.below hb2;have HX2:Hid (Bx3 b0 bf c.n c.r w2):=HB.out.below hb2;have HB2:Hid (Below w.heap.size w w2):=hb2;clear hb2;have D0:Hid (BxS b0 bf bt c.n c.r w2):=HX2.out.cells HP2.out;go_wp2_with fail
 go_region_held3 (fun wx=>wx.cell? ⟨b0,0,none⟩=some (.pointer (some ⟨bf,0,none⟩))/\wx.cell? ⟨bf,0,none⟩=some (.pointer (some ⟨bt,0,none⟩))/\wx.cell? ⟨b0+1,0,none⟩=some (.string c.n)/\wx.cell? ⟨b0+2,0,none⟩=some (.int .i64 (c.r:Nat))) (first|exact D0.out|exact D1.out|exact D2.out) (first|(go_at_call 179;refine(Fe c.n c.w c.r (by omega) (by omega) _).mono ?_;rintro _ w3 ⟨rfl,hb3⟩;have HB3:Hid (Below w2.heap.size w2 w3):=(Below.refl _ w2).drew.trans hb3;have HP3:Hid (PrS bf bt bp bd bm N Z M w3):=HP2.out.below HB3.out;have HX3:Hid (Bx3 b0 bf c.n c.r w3):=HX2.out.below HB3.out;have D1:Hid (BxS b0 bf bt c.n c.r w3):=HX3.out.cells HP3.out;clear hb3)|(go_at_call 69;refine(show Calls _ _ _ _ _ from HPT.out _ HP3.out).mono ?_;rintro _ w4 ⟨rfl,hq4,ho4⟩;have HP4:Hid (PrS bf bt bp bd bm (N+40) (Z+61) (fun y=>y=c.pr\/(M y/\y.k≠c.pr.k)) w4):=hq4;have HX4:Hid (Bx3 b0 bf c.n c.r w4):=HX3.out.only ho4 (fun i e=>by rcases e with e|e<;>omega);have D2:Hid (BxS b0 bf bt c.n c.r w4):=HX4.out.cells HP4.out;have HO4:Hid (Aa (fun b=>b=bp\/b=bm) w w4):=(Ab (HB2.out.trans (HB3.out.mono HB2.out.size)) _).trans ho4 (fun _ e=> .inl e);clear hq4 ho4))
 go_wp2;go_ret;exact⟨rfl,HP4.out,HO4.out⟩
theorem Oj {x:ByteArray} (hxs:x.size<=100) (hns:nm.size<=100) (h:PrS bf bt bp bd bm N Z M w) (hb:Bx3 b0 bf nm r w) (h0:bp<b0/\bm<b0) {y:Pr} (hy:M y) (hk:y.k=Bu nm x r) {a:Option Addr} {n c:Nat} (hN:N+60<1000000):
  Calls Tryz.prog 184 #[.string x,.slice a n c,.pointer (some ⟨b0,0,none⟩),.pointer (some ⟨b0+1,0,none⟩),.pointer (some ⟨b0+2,0,none⟩)] w fun e w'=>e= .returned .nilIface/\PrS bf bt bp bd bm (N+40) Z (fun z=>M z/\z≠y) w'/\Aa (fun b=>b=bp\/b=bm) w w':=by
 have HPT:Hid (∀wx,PrS bf bt bp bd bm N Z M wx->Calls Tryz.prog 79 #[.pointer (some ⟨bt,0,none⟩),.string (Bu nm x r)] wx fun e w'=>e= .returned .nilIface/\PrS bf bt bp bd bm (N+40) Z (fun z=>M z/\z≠y) w'/\Aa (fun b=>b=bp\/b=bm) wx w'):=fun wx hh=>by
  have:=Uk hh y hy hN;rw[hk]at this;exact this
 have HP:Hid (PrS bf bt bp bd bm N Z M w):=h;have HX:Hid (Bx3 b0 bf nm r w):=hb;obtain⟨p0,hp0⟩:=h0;have D0:Hid (BxS b0 bf bt nm r w):=HX.out.cells HP.out;clear h hb hy hk;go_enter Tryz.func184,Tryz.ntmps184;go_wp2_with fail
 go_region_held3 (fun wx=>wx.cell? ⟨b0,0,none⟩=some (.pointer (some ⟨bf,0,none⟩))/\wx.cell? ⟨bf,0,none⟩=some (.pointer (some ⟨bt,0,none⟩))/\wx.cell? ⟨b0+1,0,none⟩=some (.string nm)/\wx.cell? ⟨b0+2,0,none⟩=some (.int .i64 (r:Nat))) (first|exact D0.out|exact D1.out|exact D2.out) (first|(go_at_call 179;refine(Fe nm x r (by omega) (by omega) _).mono ?_;rintro _ w3 ⟨rfl,hb3⟩;have HB3:Hid (Below w.heap.size w w3):=(Below.refl _ w).drew.trans hb3;have HP3:Hid (PrS bf bt bp bd bm N Z M w3):=HP.out.below HB3.out;have HX3:Hid (Bx3 b0 bf nm r w3):=HX.out.below HB3.out;have D1:Hid (BxS b0 bf bt nm r w3):=HX3.out.cells HP3.out;clear hb3)|(go_at_call 79;refine(show Calls _ _ _ _ _ from HPT.out _ HP3.out).mono ?_;rintro _ w4 ⟨rfl,hq4,ho4⟩;have HP4:Hid (PrS bf bt bp bd bm (N+40) Z (fun z=>M z/\z≠y) w4):=hq4;have HX4:Hid (Bx3 b0 bf nm r w4):=HX3.out.only ho4 (fun i e=>by rcases e with e|e<;>omega);have D2:Hid (BxS b0 bf bt nm r w4):=HX4.out.cells HP4.out;have HO4:Hid (Aa (fun b=>b=bp\/b=bm) w w4):=(Ab HB3.out _).trans ho4 (fun _ e=> .inl e);clear hq4 ho4))
 go_wp2_with fail;refine(Mg _).mono ?_;rintro _ w9 ⟨rfl,h9⟩;obtain rfl:=h9.symm;clear h9;go_wp2;go_ret;exact⟨rfl,HP4.out,HO4.out⟩
theorem Qt {x:ByteArray} (hxs:x.size<=100) (hns:nm.size<=100) (h:PrS bf bt bp bd bm N Z M w) (hb:Bx3 b0 bf nm r w) (h0:bp<b0/\bm<b0) (hk:∀y,M y->y.k≠Bu nm x r) (hgl:HG w) {a:Option Addr} {n c:Nat} (hN:N+60<1000000):
  Calls Tryz.prog 184 #[.string x,.slice a n c,.pointer (some ⟨b0,0,none⟩),.pointer (some ⟨b0+1,0,none⟩),.pointer (some ⟨b0+2,0,none⟩)] w fun e w'=>e= .returned .nilIface/\Below w.heap.size w w':=by
 have HPT:Hid (∀wx,PrS bf bt bp bd bm N Z M wx->Calls Tryz.prog 79 #[.pointer (some ⟨bt,0,none⟩),.string (Bu nm x r)] wx fun e w'=>e= .returned (.iface 101 (.int .i64 7))/\Below wx.heap.size wx w'):=fun wx hh=>VE hh hk hN;have HGG:Hid (HG w):=hgl;have HP:Hid (PrS bf bt bp bd bm N Z M w):=h;have HX:Hid (Bx3 b0 bf nm r w):=hb;obtain⟨p0,hp0⟩:=h0;have D0:Hid (BxS b0 bf bt nm r w):=HX.out.cells HP.out;clear h hb hk hgl;go_enter Tryz.func184,Tryz.ntmps184;go_wp2_with fail
 go_region_held3 (fun wx=>wx.cell? ⟨b0,0,none⟩=some (.pointer (some ⟨bf,0,none⟩))/\wx.cell? ⟨bf,0,none⟩=some (.pointer (some ⟨bt,0,none⟩))/\wx.cell? ⟨b0+1,0,none⟩=some (.string nm)/\wx.cell? ⟨b0+2,0,none⟩=some (.int .i64 (r:Nat))) (first|exact D0.out|exact D1.out|exact D2.out) (first|(go_at_call 179;refine(Fe nm x r (by omega) (by omega) _).mono ?_;rintro _ w3 ⟨rfl,hb3⟩;have HB3:Hid (Below w.heap.size w w3):=(Below.refl _ w).drew.trans hb3;have HP3:Hid (PrS bf bt bp bd bm N Z M w3):=HP.out.below HB3.out;have HX3:Hid (Bx3 b0 bf nm r w3):=HX.out.below HB3.out;have D1:Hid (BxS b0 bf bt nm r w3):=HX3.out.cells HP3.out;clear hb3)|(go_at_call 79;refine(show Calls _ _ _ _ _ from HPT.out _ HP3.out).mono ?_;rintro _ w4 ⟨rfl,hb4⟩;have HX4:Hid (Bx3 b0 bf nm r w4):=HX3.out.below hb4;have D2:Hid (BxS b0 bf bt nm r w4):=HX4.out.cells (HP3.out.below hb4);have HB4:Hid (Below w.heap.size w w4):=HB3.out.trans (hb4.mono HB3.out.size);clear hb4))
 go_wp2_with fail;refine(Mh 7 _ (HGG.out.below HB4.out HGG.out.lt)).mono ?_;rintro _ w9 ⟨rfl,hb9⟩;have HB9:Hid (Below w.heap.size w w9):=HB4.out.trans (hb9.mono HB4.out.size);clear hb9;go_wp2;go_ret;exact⟨rfl,HB9.out⟩
theorem Qu {x:ByteArray} (hxs:x.size<=100) (hns:nm.size<=100) (h:PrS bf bt bp bd bm N Z M w) (hb:Bx3 b0 bf nm r w) (h0:bp<b0/\bm<b0) (hgl:HG w) {a:Option Addr} {n c:Nat} (hN:N+60<1000000):
  Calls Tryz.prog 184 #[.string x,.slice a n c,.pointer (some ⟨b0,0,none⟩),.pointer (some ⟨b0+1,0,none⟩),.pointer (some ⟨b0+2,0,none⟩)] w fun e w'=>e= .returned .nilIface/\PrS bf bt bp bd bm (N+40) Z (fun z=>M z/\z.k≠Bu nm x r) w'/\Aa (fun b=>b=bp\/b=bm) w w':=by
 by_cases hhit:∃y,M y/\y.k=Bu nm x r
 ·obtain⟨y,hy,hyk⟩:=hhit
  refine(Oj hxs hns h hb h0 hy hyk hN).mono ?_;rintro e w' ⟨rfl,g1,g2⟩;refine⟨rfl,g1.iff (fun z=>⟨fun hz=>⟨hz.1,fun e=>hz.2 (h.only_key hz.1 hy (e.trans hyk.symm))⟩,fun hz=>⟨hz.1,fun e=>hz.2 (by rw[e];exact hyk)⟩⟩),g2⟩
 ·refine(Qt hxs hns h hb h0 (fun y hy e=>hhit ⟨y,hy,e⟩) hgl hN).mono ?_
  rintro e w' ⟨rfl,g1⟩;exact⟨rfl,((h.below g1).mono (by omega) (Nat.le_refl _)).iff (fun z=>⟨fun hz=>⟨hz,fun e=>hhit ⟨z,hz,e⟩⟩,fun hz=>hz.1⟩),Ab g1 _⟩
end
theorem Ra {l:List ByteArray} {i:Nat} (hi:i<l.length):l[i]∈l.take (i+1):=by
 rw[List.take_succ_eq_append_getElem hi,List.mem_append,List.mem_singleton];exact .inr rfl
theorem Mi {l:List ByteArray} {i:Nat} (hi:i<l.length) {x:ByteArray} (h:x∈l.take i):x∈l.take (i+1):=by
 rw[List.take_succ_eq_append_getElem hi,List.mem_append];exact .inl h
def Kc (bf:Nat) (nm:ByteArray) (r:Nat) (w:World):World:=((w.alloc (.cells #[.pointer (some ⟨bf,0,none⟩)] 59)).alloc (.cells #[.string nm] 9)).alloc (.cells #[.int .i64 (r:Nat)] 3)
theorem I3 (bf:Nat) (nm:ByteArray) (r:Nat) (w:World):Bx3 w.heap.size bf nm r (Kc bf nm r w)/\Below w.heap.size w (Kc bf nm r w)/\(Kc bf nm r w).heap.size=w.heap.size+3:=by
 unfold Kc;refine⟨⟨?_,?_,?_⟩,?_,by simp⟩
 ·exact((Ai.new w (.pointer (some ⟨bf,0,none⟩)) 59).below ((Below.refl _ _).alloc (Nat.le_refl _) _)).below ((Below.refl _ _).alloc (Nat.le_refl _) _)
 ·have:=Ai.new (w.alloc (.cells #[.pointer (some ⟨bf,0,none⟩)] 59)) (.string nm) 9
  rw[World.size_alloc]at this;exact this.below ((Below.refl _ _).alloc (Nat.le_refl _) _)
 ·have:=Ai.new ((w.alloc (.cells #[.pointer (some ⟨bf,0,none⟩)] 59)).alloc (.cells #[.string nm] 9)) (.int .i64 (r:Nat)) 3
  rw[World.size_alloc,World.size_alloc]at this;exact this
 ·exact(((Below.refl _ w).alloc (Nat.le_refl _) _).alloc (by simp) _).alloc (by simp only[World.size_alloc];omega) _
structure Tx (nm:ByteArray) (r:Nat) (ws:List ByteArray):Prop where
 n:Kh nm
 lo:1<=r
 hi:r<=1073741824
 wk:∀x∈ws,WOk x
 len:ws.length<=20
def pcT (nm:ByteArray) (r:Nat) (ws:List ByteArray) (x:ByteArray):Pc:=⟨nm,x,r,AB r 0 ws x⟩
theorem Tx.pc {nm:ByteArray} {r:Nat} {ws:List ByteArray} (h:Tx nm r ws) {x:ByteArray} (hx:x∈ws):(pcT nm r ws x).Ok:=
 ⟨h.n,h.wk x hx,h.lo,h.hi,MA r ws 0 x (by have:=h.len;omega),K9 r ws 0 x hx⟩
theorem PL {nm:ByteArray} {r:Nat} {ws:List ByteArray} (h:Tx nm r ws) {x y:ByteArray} (hx:x∈ws) (hy:y∈ws) (hne:x≠y):(pcT nm r ws x).pr.k≠(pcT nm r ws y).pr.k:=fun e=>hne ((h.pc hx).key (h.pc hy) e).2.1
section
variable {bf bt bp:Nat} {bd:Sts} {bm N Z Bx:Nat} {M:Pr->Prop} {w:World} {v:Value} {nm:ByteArray} {r:Nat} {ws:List ByteArray}
theorem PT (ht:Tx nm r ws) (h:PrS bf bt bp bd bm N Z M w) (hrow:w.ownsRow Bx 9 1 v ws.length (sc ws)) (hvb:∀b,v.ownBlock=some b->b≠bp/\b≠bm) (hno:∀x∈ws,∀y,M y->y.k≠Bu nm x r) (hZ:Z+61 * ws.length<=30000) (hN:N+40 * ws.length+60<1000000):
  Calls Tryz.prog 181 #[v,.int .i64 (r:Nat),.func (.func 182) #[] #[.pointer (some ⟨w.heap.size,0,none⟩),.pointer (some ⟨w.heap.size+1,0,none⟩),.pointer (some ⟨w.heap.size+2,0,none⟩)]] (Kc bf nm r w) fun e w'=>e= .returned .nilIface/\PrS bf bt bp bd bm (N+40 * ws.length) (Z+61 * ws.length) (fun y=>M y\/∃x∈ws,y=(pcT nm r ws x).pr) w'/\Aa (fun b=>b=bp\/b=bm) w w':=by
 obtain⟨hx3,hb3,hs3⟩:=I3 bf nm r w;have hlt9:=h.lt.2.1;obtain⟨l1,l2,l3,l4,l5⟩:=h.lt;refine(MF (w:=Kc bf nm r w) (W:=fun b=>b=bp\/b=bm) (I:=fun i wx=>Bx3 w.heap.size bf nm r wx/\PrS bf bt bp bd bm (N+40 * i) (Z+61 * i) (fun y=>M y\/∃x∈ws.take i,y=(pcT nm r ws x).pr) wx) (fun x hx=>by have:=(ht.wk x hx).le;omega) (by have:=ht.len;omega) (Ag hrow hb3) (fun b e=>⟨by rcases e with e|e<;>omega,fun e2=>by have:=hvb b e2;rcases e with e|e;exact this.1 e;exact this.2 e⟩) (enters_of Tryz.func182 (by kernel_rfl) rfl) ⟨hx3,?_⟩ (fun k wx wy hI ho=>⟨hI.1.only ho (fun i e=>by omega),hI.2.above ho ⟨by omega,fun r hr=>by have:=hlt9 r hr;omega,by omega,by omega,by omega⟩⟩) (fun i hi a n c wx hnew hI hsz hr hn=> ?_) (fun i hi wx hin hI=>⟨hI.1,?_⟩)).mono ?_
 ·exact((h.below hb3).mono (by omega) (by omega)).iff (fun y=>by simp)
 ·have hmi:ws[i]∈ws:=List.getElem_mem hi
  refine(Tn (ht.pc hmi) hI.2 hI.1 ⟨l3,l4⟩ hr hn (by omega) (by omega)).mono ?_;rintro e w' ⟨rfl,g1,g2⟩;refine⟨rfl,⟨hI.1.only g2 (fun j e=>by rcases e with e|e<;>omega),?_⟩,g2⟩;refine(g1.mono (by omega) (by omega)).iff (fun y=> ?_);constructor
  ·rintro(rfl|⟨hy,_⟩)
   ·exact .inr ⟨_,Ra hi,rfl⟩
   ·rcases hy with hy|⟨x,hx,rfl⟩
    ·exact .inl hy
    ·exact .inr ⟨x,Mi hi hx,rfl⟩
  ·rintro(hy|⟨x,hx,rfl⟩)
   ·exact .inr ⟨.inl hy,hno _ hmi y hy⟩
   ·rw[List.take_succ_eq_append_getElem hi,List.mem_append,List.mem_singleton]at hx
    rcases hx with hx|hx
    ·exact .inr ⟨.inr ⟨x,hx,rfl⟩,PL ht (List.mem_of_mem_take hx) hmi (fun e=>hnew (by rw[<-e];exact hx))⟩
    ·exact .inl (by rw[hx])
 ·refine(hI.2.mono (by omega) (by omega)).iff (fun y=> ?_)
  constructor
  ·rintro(hy|⟨x,hx,rfl⟩)
   ·exact .inl hy
   ·exact .inr ⟨x,Mi hi hx,rfl⟩
  ·rintro(hy|⟨x,hx,rfl⟩)
   ·exact .inl hy
   ·rw[List.take_succ_eq_append_getElem hi,List.mem_append,List.mem_singleton]at hx
    rcases hx with hx|hx
    ·exact .inr ⟨x,hx,rfl⟩
    ·exact .inr ⟨x,by rw[hx];exact hin,rfl⟩
 ·rintro e w' ⟨rfl,⟨_,g1⟩,g2⟩
  rw[List.take_length]at g1;exact⟨rfl,g1,(Ab hb3 _).trans g2 (fun _ e=> .inl e)⟩
theorem MX (hnm:Kh nm) (hws:∀x∈ws,WOk x) (hl:ws.length<=1000) (h:PrS bf bt bp bd bm N Z M w) (hgl:HG w) (h1p:3<=bp/\3<=bm) (hrow:w.ownsRow Bx 9 1 v ws.length (sc ws)) (hvb:∀b,v.ownBlock=some b->b≠bp/\b≠bm) (hN:N+40 * ws.length+60<1000000):
  Calls Tryz.prog 181 #[v,.int .i64 (r:Nat),.func (.func 184) #[] #[.pointer (some ⟨w.heap.size,0,none⟩),.pointer (some ⟨w.heap.size+1,0,none⟩),.pointer (some ⟨w.heap.size+2,0,none⟩)]] (Kc bf nm r w) fun e w'=>e= .returned .nilIface/\PrS bf bt bp bd bm (N+40 * ws.length) Z (fun z=>M z/\∀x∈ws,z.k≠Bu nm x r) w'/\Aa (fun b=>b=bp\/b=bm) w w':=by
 obtain⟨hx3,hb3,hs3⟩:=I3 bf nm r w;have hlt9:=h.lt.2.1;obtain⟨l1,l2,l3,l4,l5⟩:=h.lt;obtain⟨p1,p2⟩:=h1p;have hgt:=hgl.lt;refine(MF (w:=Kc bf nm r w) (W:=fun b=>b=bp\/b=bm) (I:=fun i wx=>(Bx3 w.heap.size bf nm r wx/\HG wx)/\PrS bf bt bp bd bm (N+40 * i) Z (fun z=>M z/\∀x∈ws.take i,z.k≠Bu nm x r) wx) (fun x hx=>by have:=(hws x hx).le;omega) (by omega) (Ag hrow hb3) (fun b e=>⟨by rcases e with e|e<;>omega,fun e2=>by have:=hvb b e2;rcases e with e|e;exact this.1 e;exact this.2 e⟩) (enters_of Tryz.func184 (by kernel_rfl) rfl) ⟨⟨hx3,hgl.below hb3 hgt⟩,?_⟩ (fun k wx wy hI ho=>⟨⟨hI.1.1.only ho (fun i e=>by omega),(ho.cell hI.1.2.lt (fun e=>by omega) 0).trans hI.1.2⟩,hI.2.above ho ⟨by omega,fun r hr=>by have:=hlt9 r hr;omega,by omega,by omega,by omega⟩⟩) (fun i hi a n c wx hnew hI hsz hr hn=> ?_) (fun i hi wx hin hI=>⟨hI.1,?_⟩)).mono ?_
 ·exact((h.below hb3).mono (by omega) (by omega)).iff (fun y=>by simp)
 ·have hmi:ws[i]∈ws:=List.getElem_mem hi
  refine(Qu (x:=ws[i]) (by have:=(hws _ hmi).le;omega) (by have:=hnm.le;omega) hI.2 hI.1.1 ⟨l3,l4⟩ hI.1.2 (by omega)).mono ?_;rintro e w' ⟨rfl,g1,g2⟩;refine⟨rfl,⟨⟨hI.1.1.only g2 (fun j e=>by rcases e with e|e<;>omega),(g2.cell hI.1.2.lt (fun e=>by rcases e with e|e<;>omega) 0).trans hI.1.2⟩,?_⟩,g2⟩;refine(g1.mono (by omega) (Nat.le_refl _)).iff (fun z=> ?_);rw[List.take_succ_eq_append_getElem hi];constructor
  ·rintro⟨⟨h1,h2⟩,h3⟩
   refine⟨h1,fun x hx=> ?_⟩;rcases List.mem_append.1 hx with hx|hx
   ·exact h2 x hx
   ·obtain rfl:=List.mem_singleton.1 hx
    exact h3
  ·rintro⟨h1,h2⟩
   exact⟨⟨h1,fun x hx=>h2 x (List.mem_append.2 (.inl hx))⟩,h2 _ (List.mem_append.2 (.inr (List.mem_singleton.2 rfl)))⟩
 ·refine(hI.2.mono (by omega) (Nat.le_refl _)).iff (fun z=> ?_)
  rw[List.take_succ_eq_append_getElem hi];constructor
  ·rintro⟨h1,h2⟩
   refine⟨h1,fun x hx=> ?_⟩;rcases List.mem_append.1 hx with hx|hx
   ·exact h2 x hx
   ·obtain rfl:=List.mem_singleton.1 hx
    exact h2 _ hin
  ·rintro⟨h1,h2⟩
   exact⟨h1,fun x hx=>h2 x (List.mem_append.2 (.inl hx))⟩
 ·rintro e w' ⟨rfl,⟨_,g1⟩,g2⟩
  rw[List.take_length]at g1;exact⟨rfl,g1,(Ab hb3 _).trans g2 (fun _ e=> .inl e)⟩
set_option maxHeartbeats 2000000
theorem RC (ht:Tx nm r ws) (h:PrS bf bt bp bd bm N Z M w) (hrow:w.ownsRow Bx 9 1 v ws.length (sc ws)) (hvb:∀b,v.ownBlock=some b->b≠bp/\b≠bm) (hno:∀x∈ws,∀y,M y->y.k≠Bu nm x r) (hZ:Z+61 * ws.length<=30000) (hN:N+40 * ws.length+60<1000000):
  Calls Tryz.prog 128 #[.pointer (some ⟨bf,0,none⟩),.string nm,.int .i64 (r:Nat),v] w fun e w'=>e= .returned .nilIface/\PrS bf bt bp bd bm (N+40 * ws.length) (Z+61 * ws.length) (fun y=>M y\/∃x∈ws,y=(pcT nm r ws x).pr) w'/\Aa (fun b=>b=bp\/b=bm) w w':=by
 have HO:Hid _:=PT ht h hrow hvb hno hZ hN;have hmf:∀(fn:Fn) (first cap:Array Value) (w:World),(Instr.makeFunc fn first cap).run Tryz.prog w= .ok (.func fn first cap) w:=fun _ _ _ _=>rfl;obtain⟨hx3,_,_⟩:=I3 bf nm r w;have c0:=hx3.r.cell;obtain⟨w0,hw0⟩:∃w0,Kc bf nm r w=w0:=⟨_,rfl⟩;have hw1:((w.alloc (.cells #[.pointer (some ⟨bf,0,none⟩)] 59)).alloc (.cells #[.string nm] 9)).alloc (.cells #[.int .i64 (r:Nat)] 3)=w0:=hw0;rw[hw0]at c0 HO;have c1:w0.cell? ⟨w.heap.size+1+1,0,none⟩=some (.int .i64 (r:Nat)):=c0;clear hx3 hw0 h hrow hvb hno ht c0;go_enter Tryz.func128,Tryz.ntmps128;go_wp2_with fail;refine(show Calls _ _ _ _ _ from HO.out).mono ?_;rintro _ w2 ⟨rfl,g1,g2⟩;have HG1:Hid _:=g1;have HG2:Hid _:=g2;clear g1 g2 HO;go_wp2;go_ret;exact⟨rfl,HG1.out,HG2.out⟩
theorem Ol (hnm:Kh nm) (hws:∀x∈ws,WOk x) (hl:ws.length<=1000) (h:PrS bf bt bp bd bm N Z M w) (hgl:HG w) (h1p:3<=bp/\3<=bm) (hrow:w.ownsRow Bx 9 1 v ws.length (sc ws)) (hvb:∀b,v.ownBlock=some b->b≠bp/\b≠bm) (hN:N+40 * ws.length+60<1000000):
  Calls Tryz.prog 131 #[.pointer (some ⟨bf,0,none⟩),.string nm,.int .i64 (r:Nat),v] w fun e w'=>e= .returned .nilIface/\PrS bf bt bp bd bm (N+40 * ws.length) Z (fun z=>M z/\∀x∈ws,z.k≠Bu nm x r) w'/\Aa (fun b=>b=bp\/b=bm) w w':=by
 have HO:Hid _:=MX (r:=r) hnm hws hl h hgl h1p hrow hvb hN;have hmf:∀(fn:Fn) (first cap:Array Value) (w:World),(Instr.makeFunc fn first cap).run Tryz.prog w= .ok (.func fn first cap) w:=fun _ _ _ _=>rfl;obtain⟨hx3,_,_⟩:=I3 bf nm r w;have c0:=hx3.r.cell;obtain⟨w0,hw0⟩:∃w0,Kc bf nm r w=w0:=⟨_,rfl⟩;have hw1:((w.alloc (.cells #[.pointer (some ⟨bf,0,none⟩)] 59)).alloc (.cells #[.string nm] 9)).alloc (.cells #[.int .i64 (r:Nat)] 3)=w0:=hw0;rw[hw0]at c0 HO;have c1:w0.cell? ⟨w.heap.size+1+1,0,none⟩=some (.int .i64 (r:Nat)):=c0;clear hx3 hw0 h hrow hvb hnm hws hgl h1p c0;go_enter Tryz.func131,Tryz.ntmps131;go_wp2_with fail;refine(show Calls _ _ _ _ _ from HO.out).mono ?_;rintro _ w2 ⟨rfl,g1,g2⟩;have HG1:Hid _:=g1;have HG2:Hid _:=g2;clear g1 g2 HO;go_wp2;go_ret;exact⟨rfl,HG1.out,HG2.out⟩
end
end
end Go.Proofs.YtihnldkgeelehaaGreatDoor
