/- StoreFinds: part 38. -/
import Derived.Test.YtihnldkgeelehaaGreatDoorF37
import Derived.Deep.MidRow
set_option maxRecDepth 100000
set_option maxHeartbeats 4000000
namespace Go.Proofs.YtihnldkgeelehaaGreatDoor
section
open Go.RowKit
def Il (n:Int) (s:Nat):List UInt8:=(List.range s).map fun i=>UInt8.ofNat (n / 256 ^ (s-1-i) % 256).toNat
theorem MG (n:Int) (s:Nat):(Il n s).length=s:=by simp[Il]
theorem PR {n:Int} {s j:Nat} (h:j<s):((Il n s).getD j 0).toNat=(n / 256 ^ (s-1-j) % 256).toNat:=by
 have h1:(n / 256 ^ (s-1-j) % 256).toNat<256:=by omega
 simp[Il,List.getD_eq_getElem?_getD,h];omega
theorem RW (m:Nat):(2:Int) ^ (8 * m)=256 ^ m:=by rw[Int.pow_mul];rfl
theorem Sc (n:Int) (m:Nat):n / 2 ^ (8 * m) % 256=((n / 256 ^ m % 256).toNat:Int):=by
 rw[RW];omega
set_option maxHeartbeats 1000000
theorem NN (n:Int) (s:Nat) (hs:1<=s/\s<=8) (w:World):
  Calls Tryz.prog 67 #[.int .i64 n,.int .i64 (s:Nat)] w fun e w'=>e= .returned (.string (An (Il n s)))/\Below w.heap.size w w':=by
 have hmk:=ML s hs.2
 have HW:Hid (F7 w.heap.size s (fun j=>if j<0 then(n / 256 ^ (s-1-j) % 256).toNat else 0) (w.alloc (.cells (madeCells (Value.int .u8 0).cells s) 5))):=by
  show F7 _ _ _ _;simpa using KQ s w
 have HB:Hid (Below w.heap.size w (w.alloc (.cells (madeCells (Value.int .u8 0).cells s) 5))):=(Below.refl _ w).alloc (Nat.le_refl _) _;go_enter Tryz.func67,Tryz.ntmps67;go_wp2_with fail;clear hmk;go_loopw [11] (fun i wr=>∃k:Nat,k<=s/\i= .int .i64 (k:Nat)/\Hid (F7 w.heap.size s (fun j=>if j<k then(n / 256 ^ (s-1-j) % 256).toNat else 0) wr)/\Hid (Below w.heap.size w wr)) (fun i _=>s+1-(intOf i).toNat)
 case atStart=>exact⟨0,Nat.zero_le _,rfl,HW,HB⟩
 case round=>
  clear HW HB;obtain⟨k,hk,rfl,HW,HB⟩:=hrel
  by_cases hlt:k<s
  ·have h1:(k:Int)<(s:Int):=by omega
   have w1:IntKind.i64.wrap ((s:Int)-1)=(s:Int)-1:=JN (by omega) (by omega);have w2:IntKind.i64.wrap ((s:Int)-1-(k:Int))=((s-1-k:Nat):Int):=by rw[JN (by omega) (by omega)];omega
   have w3:IntKind.i64.wrap (8 * ((s-1-k:Nat):Int))=((8 * (s-1-k):Nat):Int):=by rw[JN (by omega) (by omega)];omega
   have q0:=HW.out.cell k hlt;have f0:=HW.out.free k;go_wp2_with fail;go_roundw
   case rel=>
    refine⟨k+1,by omega,by go_num,?_,HB.out.setCell (Nat.le_refl _) _⟩;have:=HW.out.set (b:=(n / 256 ^ (s-1-k) % 256).toNat) hlt;show F7 _ _ _ _;rw[Sc n (s-1-k)];refine⟨fun j hj=> ?_,this.free⟩;rw[this.cell j hj]
    by_cases e:j=k
    ·subst e;simp
    ·have:(j<k+1)=(j<k):=by simp;omega
     simp[e,this]
   case measure=>simp[intOf];omega
  ·have h1:¬(k:Int)<(s:Int):=by omega
   obtain rfl:s=k:=by omega
   have hT:F7 w.heap.size s (fun j=>((Il n s).getD j 0).toNat) wr:=by
    refine⟨fun j hj=> ?_,HW.out.free⟩;rw[HW.out.cell j hj,if_pos hj,PR hj]
   have hcv:=hT.text (MG n s);clear hT;go_wp2;go_ret;exact⟨rfl,HB.out⟩
theorem UK (n:Int):Il n 8=Av (n % 18446744073709551616).toNat 8:=by
 unfold Il Av;refine List.map_congr_left fun i hi=> ?_;rw[List.mem_range]at hi;have:i=0\/i=1\/i=2\/i=3\/i=4\/i=5\/i=6\/i=7:=by omega
 have key:∀a b:Nat,a % 256=b % 256->UInt8.ofNat a=UInt8.ofNat b:=fun a b h=>by
  apply UInt8.toNat_inj.1;simpa using h
 rcases this with rfl|rfl|rfl|rfl|rfl|rfl|rfl|rfl
 all_goals
  apply key;simp only[Nat.reduceSub,Nat.reducePow,Int.reducePow];omega
theorem Tl {n:Int} {m:Nat} (h1: -9223372036854775808<=n) (h2:n<=9223372036854775807) (hm:m<256):Il n 8=Av m 8↔n=(m:Int):=by
 rw[UK];constructor
 ·intro h
  have:=G0 (by show _<18446744073709551616;omega) (NU (by omega)) h;omega
 ·intro h
  congr 1;omega
def rkZ (t:Nat) (r:Int):ByteArray:=An (Av t 2++Il r 8)
theorem Mw (t:Nat) (r:Int) (w:World):Calls Tryz.prog 70 #[.int .i64 (t:Nat),.int .i64 r] w fun e w'=>e= .returned (.string (rkZ t r))/\Below w.heap.size w w':=by
 have hs:=EU (Av t 2) (Il r 8) (by simp[Ay,MG]);have HN:Hid (∀wx,Calls Tryz.prog 67 #[.int .i64 r,.int .i64 8] wx fun e w'=>e= .returned (.string (An (Il r 8)))/\Below wx.heap.size wx w'):=fun wx=>NN r 8 (by omega) wx;go_enter Tryz.func70,Tryz.ntmps70;go_wp2_with fail;refine(Dz t w).mono ?_;rintro _ w1 ⟨rfl,hb⟩;have HB:Hid _:=hb;have ht:tkB t=An (Av t 2):=rfl;rw[ht];clear hb ht;go_wp2_with fail;refine(show Calls _ _ _ _ _ from HN.out w1).mono ?_;rintro _ w2 ⟨rfl,hb⟩;have HB2:Hid (Below w.heap.size w w2):=HB.out.trans (hb.mono HB.out.size);clear hb;go_wp2;go_ret;exact⟨rfl,HB2.out⟩
theorem U4 {r:Int} {i:Nat} (h1: -9223372036854775808<=r) (h2:r<=9223372036854775807) (hi:i<256):rkB 1 i=rkZ 1 r↔r=(i:Int):=by
 rw[<-Tl h1 h2 hi];constructor
 ·intro h
  have:=congrArg (fun b:ByteArray=>b.data.toList) h;simp only[rkB,rkZ,A0]at this;exact(List.append_cancel_left this).symm
 ·intro h
  unfold rkB rkZ;rw[h]
end
section
open Go.RowKit Go.Maps
theorem Hq {P:Program} {fn:Func} {p q r:Tmp} {t u:TypeId} {v1 v2 v3:Value} (h:fn.results= #[.cell p t,.cell q u,.tmp r]) (tmps:Array Value) (w:World) (a b:Addr) (hp:tmps.getD p undef= .pointer (some a)) (hq:tmps.getD q undef= .pointer (some b)) (hr:tmps.getD r undef=v3) (hl:(loadVar t a).run P w= .ok v1 w) (hk:(loadVar u b).run P w= .ok v2 w):
  (results fn tmps).run P w= .ok (.tuple #[v1,v2,v3]) w:=by
 have e0:tmps[p]?.getD undef= .pointer (some a):=by simpa [Array.getD_eq_getD_getElem?]using hp
 have e1:tmps[q]?.getD undef= .pointer (some b):=by simpa [Array.getD_eq_getD_getElem?]using hq
 have e2:tmps[r]?.getD undef=v3:=by simpa [Array.getD_eq_getD_getElem?]using hr
 simp[results,h,e0,e1,e2,asAddr,hl,hk]
theorem OP {B:Nat} {a b:Value} {w:World} (h:Ac B [a,b] w):(loadVar 57 ⟨B,0,none⟩).run Tryz.prog w= .ok (.agg #[a,b]) w:=
 run_loadVar_mid (P:=Tryz.prog) w B 0 57 [a,b] _ (fun j v hv=>h.get hv) Tryz.underlying57 rfl (by kernel_rfl)
theorem Ho {w:World} {B bp bm cap:Nat} {a:Option Addr} {r:Rw} (h:w.ownsRow B 24 3 (.slice a 2 cap) 2 (Bq r.l)) (hB:bp<B/\bm<B) (hok:r.Ok):DY a cap bp bm r w:=by
 have hs:∀x∈r.l,x.s.size<=maxLen:=fun x hx=>by
  simp only[Rw.l,List.mem_cons,List.not_mem_nil,or_false]at hx;rcases hx with rfl|rfl
  ·exact EC hok.ra
  ·exact EC hok.rb
 obtain⟨a',cap',e,hv,_⟩:=EV (xs:=r.l) h hs (by show 2<=maxLen;decide)
 cases e
 refine⟨hv,fun ad e=> ?_,?_⟩
 ·subst e
  have:=(World.ownsRow.lt h ad.block rfl).1;omega
 ·rcases h.2 with⟨_,e⟩|⟨g,cp,cur,e,_,_,h4,_⟩
  ·cases e
  ·cases e;exact h4
theorem Cm.only {B lc cc li ci:Nat} {t:Tb} {ac ai:Option Addr} {w w':World} {S:Nat->Prop} (h:Cm B t ac ai lc cc li ci w) (ho:Aa S w w') (hS:∀b,S b->b<B):Cm B t ac ai lc cc li ci w':=⟨Aw h.cr ho hS,Aw h.nr ho hS,h.ll⟩
theorem DY.only {av:Option Addr} {cv bp bm:Nat} {r:Rw} {w w':World} {S:Nat->Prop} (h:DY av cv bp bm r w) (ho:Aa S w w') (hS:∀ad,av=some ad->¬S ad.block):DY av cv bp bm r w':=⟨h.vr.only ho hS,h.hv,h.cv⟩
theorem Uf (w:World) {a b:Nat} (u0 u1 u2 u3 u4 u5 u6:Value):Aa (fun x=>x=a\/x=b) w (((((((w.setCell ⟨a,0,none⟩ u0).setCell ⟨a,1,none⟩ u1).setCell ⟨a,2,none⟩ u2).setCell ⟨a,3,none⟩ u3).setCell ⟨a,4,none⟩ u4).setCell ⟨b,0,none⟩ u5).setCell ⟨b,1,none⟩ u6):=by
 have h1:∀(w:World) (o:Nat) (u:Value),Aa (fun x=>x=a\/x=b) w (w.setCell ⟨a,o,none⟩ u):=fun w o u=>(Aa.refl _ w).trans (Aa.set a o u w) (fun _ e=> .inl (.inl e));have h2:∀(w:World) (o:Nat) (u:Value),Aa (fun x=>x=a\/x=b) w (w.setCell ⟨b,o,none⟩ u):=fun w o u=>(Aa.refl _ w).trans (Aa.set b o u w) (fun _ e=> .inl (.inr e));exact((((((h1 _ _ _).trans (h1 _ _ _) (fun _ e=> .inl e)).trans (h1 _ _ _) (fun _ e=> .inl e)).trans (h1 _ _ _) (fun _ e=> .inl e)).trans (h1 _ _ _) (fun _ e=> .inl e)).trans (h2 _ _ _) (fun _ e=> .inl e)).trans (h2 _ _ _) (fun _ e=> .inl e)
section
variable {bs bc bw bp bm N k nx:Nat} {c:Sts} {R:List Rw} {ib:Bool} {D:List Nd} {w:World}
theorem GN (h:1<=nx/\nx<256) (ib:Bool):(tbl nx ib).Ok:=by
 refine⟨by show BW tnm=true;decide,⟨by show 1<=1;decide,by show 1<=20;decide⟩,by show 2<=6;decide,fun c hc=> ?_,h.2⟩;simp only[tbl,List.mem_cons,List.not_mem_nil,or_false]at hc;rcases hc with rfl|rfl
 ·exact⟨by show BW ⟨#[97]⟩=true;decide,.inl rfl⟩
 ·exact⟨by show BW ⟨#[98]⟩=true;decide,.inr rfl⟩
theorem Fi (h:Stw bs bc bw bp c bm N w) (hd:StD c k R nx ib D) (hk:k<250):
  Calls Tryz.prog 24 #[.pointer (some ⟨bc,0,none⟩),.string tnm] w fun e w'=>∃ac ai lc cc li ci,e= .returned (.tuple #[.agg #[.int .i64 1,.int .i64 (nx:Nat),.string tnm,.slice ac lc cc,.slice ai li ci],.nilIface])/\Cm w.heap.size (tbl nx ib) ac ai lc cc li ci w'/\Below w.heap.size w w':=by
 obtain⟨m,hm⟩:=h.g.m;have hn:=hd.nx;have hc:=h.cat (GN (nx:=nx) (by omega) ib) hd.m0;refine(GB hc hm (by simp) (List.mem_singleton.2 rfl)).mono ?_;rintro e w' ⟨vc,vi,rfl,h1,h2,_,h4⟩;obtain⟨ac,cc,rfl⟩:=Aj h1;obtain⟨ai,ci,rfl⟩:=Aj h2;exact⟨ac,ai,_,cc,_,ci,rfl,⟨h1,h2,rfl,rfl⟩,h4⟩
theorem Na (h:Stw bs bc bw bp c bm N w) (hd:StD c k R nx ib D) (hk:k<250) {r:Rw} (hr:r∈R) {row:Int} (hrow:row=(r.id:Nat)):
  Calls Tryz.prog 30 #[.pointer (some ⟨bs,0,none⟩),.string tnm,.int .i64 row] w fun e w'=>∃ac ai lc cc li ci av cv,e= .returned (.tuple #[.agg #[.int .i64 1,.int .i64 (nx:Nat),.string tnm,.slice ac lc cc,.slice ai li ci],.agg #[.int .i64 (r.id:Nat),.slice av 2 cv],.nilIface])/\Cm w.heap.size (tbl nx ib) ac ai lc cc li ci w'/\DY av cv bp bm r w'/\Below w.heap.size w w':=by
 subst hrow;have hok:=(hd.ok r hr).1;obtain⟨W1,hW1⟩:∃W1,(w.alloc (.cells #[.int .i64 0,.int .i64 0,.string ⟨#[]⟩,.slice none 0 0,.slice none 0 0] 92)).alloc (.cells #[.int .i64 0,.slice none 0 0] 57)=W1:=⟨_,rfl⟩;have hb1:Below w.heap.size w W1:=by rw[<-hW1];exact((Below.refl _ w).alloc (Nat.le_refl _) _).alloc (by simp) _
 have v6:Ac w.heap.size [.int .i64 0,.int .i64 0,.string ⟨#[]⟩,.slice none 0 0,.slice none 0 0] W1:=by rw[<-hW1];exact(Ac.new w #[.int .i64 0,.int .i64 0,.string ⟨#[]⟩,.slice none 0 0,.slice none 0 0] 92 (by simp)).below ((Below.refl _ _).alloc (Nat.le_refl _) _)
 have v7:Ac (w.heap.size+1) [.int .i64 0,.slice none 0 0] W1:=by
  rw[<-hW1];have:=Ac.new (w.alloc (.cells #[.int .i64 0,.int .i64 0,.string ⟨#[]⟩,.slice none 0 0,.slice none 0 0] 92)) #[.int .i64 0,.slice none 0 0] 57 (by simp);rw[World.size_alloc]at this;exact this
 have HS1:Hid (Stw bs bc bw bp c bm N W1):=h.below hb1;have HV6:Hid _:=v6;have HV7:Hid _:=v7;have HB1:Hid _:=hb1;have HG:Hid _:=Fi HS1.out hd hk;have HD:Hid _:=hd;have HOK:Hid _:=hok;have HR:Hid _:=hr;have HL:Hid (bp<w.heap.size/\bm<w.heap.size):=⟨h.lt.1,h.lt.2.1⟩;have q0:=HS1.out.v.cell 0 (by simp);simp only[List.getElem_cons_zero]at q0;clear h hd hok hb1 v6 v7 hr;go_enter Tryz.func30,Tryz.ntmps30;go_wp2_with fail;refine(show Calls _ _ _ _ _ from HG.out).mono ?_;rintro _ w2 ⟨ac,ai,lc,cc,li,ci,rfl,he2,hb2⟩;obtain⟨W3,hW3⟩:∃W3,w2.alloc (.cells #[.int .i64 1,.int .i64 (nx:Nat),.string tnm,.slice ac lc cc,.slice ai li ci] 92)=W3:=⟨_,rfl⟩;have hb3:Below w2.heap.size w2 W3:=by rw[<-hW3];exact(Below.refl _ w2).alloc (Nat.le_refl _) _
 have v9:Ac w2.heap.size [.int .i64 1,.int .i64 (nx:Nat),.string tnm,.slice ac lc cc,.slice ai li ci] W3:=by rw[<-hW3];exact Ac.new w2 #[.int .i64 1,.int .i64 (nx:Nat),.string tnm,.slice ac lc cc,.slice ai li ci] 92 (by simp)
 have hb13:Below W1.heap.size W1 W3.drew:=hb2.trans (hb3.drew.mono hb2.size);have HS3:Hid (Stw bs bc bw bp c bm N W3.drew):=HS1.out.below hb13;have HE3:Hid (Cm W1.heap.size (tbl nx ib) ac ai lc cc li ci W3.drew):=he2.below hb3.drew;have HV63:Hid (Ac w.heap.size [.int .i64 0,.int .i64 0,.string ⟨#[]⟩,.slice none 0 0,.slice none 0 0] W3.drew):=HV6.out.below hb13;have HV73:Hid (Ac (w.heap.size+1) [.int .i64 0,.slice none 0 0] W3.drew):=HV7.out.below hb13;have HV93:Hid (Ac w2.heap.size [.int .i64 1,.int .i64 (nx:Nat),.string tnm,.slice ac lc cc,.slice ai li ci] W3.drew):=v9.drew;have HB3:Hid (Below w.heap.size w W3.drew):=HB1.out.trans (hb13.mono HB1.out.size);have HLT:Hid (w.heap.size+2<=W1.heap.size/\W1.heap.size<=w2.heap.size):=⟨by have:=HV7.out.lt;omega,hb2.size⟩;have HRK:Hid (∀wx,Calls Tryz.prog 70 #[.int .i64 1,.int .i64 (r.id:Nat)] wx fun e w'=>e= .returned (.string (rkP 1 r).k)/\Below wx.heap.size wx w'):=fun wx=>FL 1 r.id wx
 have HGT:Hid (∀wx,Stw bs bc bw bp c bm N wx->Calls Tryz.prog 77 #[.pointer (some ⟨c.tb 1,0,none⟩),.string (rkP 1 r).k] wx fun e w'=>e= .returned (.tuple #[.string (An (Bp r.l)),.nilIface])/\Below wx.heap.size wx w'):=fun wx hh=>by
  refine(V8 hh.t (r:=1) (by omega) (rkP 1 r).k).mono ?_;rintro e w' ⟨hg,hb⟩;rcases hg with⟨x,hx,hxk,rfl⟩|⟨hno,_⟩
  ·obtain⟨q,hq,rfl⟩:=(HD.out.m1 x).1 hx
   have e2:q.id=r.id:=Lx (by have:=(HD.out.ok q hq).1.id;omega) (by have:=HOK.out.id;omega) hxk;rw[HD.out.same hq HR.out e2];exact⟨rfl,hb⟩
  ·exact absurd rfl (hno _ ((HD.out.m1 _).2 ⟨r,HR.out,rfl⟩))
 obtain⟨K,hK⟩:∃K,(rkP 1 r).k=K:=⟨_,rfl⟩;obtain⟨It,hIt⟩:∃It,An (Bp r.l)=It:=⟨_,rfl⟩
 have HRD:Hid (∀wx,lc=2->Calls Tryz.prog 78 #[.slice ac lc cc,.string It] wx fun e w'=>∃a cap,e= .returned (.tuple #[.slice a lc cap,.nilIface])/\w'.ownsRow wx.heap.size 24 3 (.slice a lc cap) lc (Bq r.l)/\Below wx.heap.size wx w'):=fun wx e2=>by
  have:=Kz (ac:=ac) (cc:=cc) (n:=lc) r.l wx (by rw[e2];rfl) (by omega) (fun x hx=>by
   simp only[Rw.l,List.mem_cons,List.not_mem_nil,or_false]at hx;rcases hx with rfl|rfl
   ·exact HOK.out.ra
   ·exact HOK.out.rb) (fun x hx=>by
   simp only[Rw.l,List.mem_cons,List.not_mem_nil,or_false]at hx;rcases hx with rfl|rfl
   ·exact HOK.out.fa
   ·exact HOK.out.fb)
  rw[hIt]at this;exact this
 rw[hK]at HRK HGT;rw[hIt]at HGT;have D0:Hid (W3.drew.cell? ⟨bs,3,none⟩=some (.pointer (some ⟨c.tb 1,0,none⟩))/\W3.drew.cell? ⟨w2.heap.size,0,none⟩=some (.int .i64 1)):=⟨HS3.out.v.cell 3 (by simp),HV93.out.cell 0 (by simp)⟩;have q5:=D0.out.1;have q6:=D0.out.2;clear he2 hb2 hb3 v9 hb13 HV6 HV7 HS1 HB1 HG hK hIt q0 q5 q6 hW1;go_wp2_with fail
 go_region_held3 (fun wx=>wx.cell? ⟨bs,3,none⟩=some (.pointer (some ⟨c.tb 1,0,none⟩))/\wx.cell? ⟨w2.heap.size,0,none⟩=some (.int .i64 1)) (first|exact D0.out|exact D1.out|exact D2.out) (first|(go_at_call 70;refine(show Calls _ _ _ _ _ from HRK.out _).mono ?_;rintro _ w4 ⟨rfl,hb4⟩;have HBK:Hid (Below W3.drew.heap.size W3.drew w4):=hb4;have HS4:Hid (Stw bs bc bw bp c bm N w4):=HS3.out.below hb4;have D1:Hid (w4.cell? ⟨bs,3,none⟩=some (.pointer (some ⟨c.tb 1,0,none⟩))/\w4.cell? ⟨w2.heap.size,0,none⟩=some (.int .i64 1)):=⟨Ae hb4 D0.out.1,Ae hb4 D0.out.2⟩;clear hb4)|(go_at_call 77;refine(show Calls _ _ _ _ _ from HGT.out _ HS4.out).mono ?_;rintro _ w5 ⟨rfl,hb5⟩;have HBL:Hid (Below W3.drew.heap.size W3.drew w5):=HBK.out.trans (hb5.mono HBK.out.size);have D2:Hid (w5.cell? ⟨bs,3,none⟩=some (.pointer (some ⟨c.tb 1,0,none⟩))/\w5.cell? ⟨w2.heap.size,0,none⟩=some (.int .i64 1)):=⟨Ae hb5 D1.out.1,Ae hb5 D1.out.2⟩;clear hb5))
 have HE5:Hid (Cm W1.heap.size (tbl nx ib) ac ai lc cc li ci w5):=HE3.out.below HBL.out;have HV65:Hid _:=HV63.out.below HBL.out;have HV75:Hid _:=HV73.out.below HBL.out;have HV95:Hid _:=HV93.out.below HBL.out;have HB5:Hid (Below w.heap.size w w5):=HB3.out.trans (HBL.out.mono HB3.out.size);obtain⟨p0,p1,p2,p3,p4⟩:=HV95.out.c5;have hlc:lc=2:=HE5.out.ll.1.symm;subst hlc;clear D0 D1 D2 HS3 HE3 HV63 HV73 HV93 HB3 hW3;go_wp2_with fail;refine(show Calls _ _ _ _ _ from HRD.out _ (by first|rfl|trivial)).mono ?_;rintro _ w6 ⟨av,cv,rfl,ho6,hb6⟩;have HRW:Hid (DY av cv bp bm r w6):=Ho ho6 (by have:=HL.out;have:=HB5.out.size;omega) HOK.out
 have HAV:Hid (∀ad,av=some ad->¬(ad.block=w.heap.size\/ad.block=w.heap.size+1)):=fun ad e=>by
  subst e;have h7:=(World.ownsRow.lt ho6 ad.block rfl).1;have h8:=HB5.out.size;have h9:=HV75.out.lt;omega
 have HE6:Hid (Cm W1.heap.size (tbl nx ib) ac ai 2 cc li ci w6):=HE5.out.below hb6;have HV66:Hid (Ac w.heap.size [.int .i64 0,.int .i64 0,.string ⟨#[]⟩,.slice none 0 0,.slice none 0 0] w6):=HV65.out.below hb6;have HV76:Hid (Ac (w.heap.size+1) [.int .i64 0,.slice none 0 0] w6):=HV75.out.below hb6;have HV96:Hid (Ac w2.heap.size [.int .i64 1,.int .i64 (nx:Nat),.string tnm,.slice ac 2 cc,.slice ai li ci] w6):=HV95.out.below hb6;have HB6:Hid (Below w.heap.size w w6):=HB5.out.trans (hb6.mono HB5.out.size);clear p0 p1 p2 p3 p4 ho6 hb6 HE5 HV65 HV75 HV95 HB5 HRD;obtain⟨p0,p1,p2,p3,p4⟩:=HV96.out.c5;have f0:=HV66.out.free 0;have f1:=HV66.out.free 1;have f2:=HV66.out.free 2;have f3:=HV66.out.free 3;have f4:=HV66.out.free 4;have g0:=HV76.out.free 0;have g1:=HV76.out.free 1;obtain⟨d0,d1,d2,d3,d4⟩:=HV66.out.c5;have k0:=HV76.out.cell 0 (by simp);have k1:=HV76.out.cell 1 (by simp);simp only[List.getElem_cons_zero,List.getElem_cons_succ]at k0 k1;go_wp2;have hv6:=((((HV66.out.set 0 (.int .i64 1)).set 1 (.int .i64 (nx:Nat))).set 2 (.string tnm)).set 3 (.slice ac 2 cc)).set 4 (.slice ai li ci);have hv7:=(((((HV76.out.far (C:=w.heap.size) (o:=0) (u:= .int .i64 1) (by omega)).far (C:=w.heap.size) (o:=1) (u:= .int .i64 (nx:Nat)) (by omega)).far (C:=w.heap.size) (o:=2) (u:= .string tnm) (by omega)).far (C:=w.heap.size) (o:=3) (u:= .slice ac 2 cc) (by omega)).far (C:=w.heap.size) (o:=4) (u:= .slice ai li ci) (by omega));have hv72:=(hv7.set 0 (.int .i64 (r.id:Nat))).set 1 (.slice av 2 cv);have hv62:=(hv6.far (C:=w.heap.size+1) (o:=0) (u:= .int .i64 (r.id:Nat)) (by omega)).far (C:=w.heap.size+1) (o:=1) (u:= .slice av 2 cv) (by omega)
 have ho:Aa (fun b=>b=w.heap.size\/b=w.heap.size+1) w6 (((((((w6.setCell ⟨w.heap.size,0,none⟩ (.int .i64 1)).setCell ⟨w.heap.size,1,none⟩ (.int .i64 (nx:Nat))).setCell ⟨w.heap.size,2,none⟩ (.string tnm)).setCell ⟨w.heap.size,3,none⟩ (.slice ac 2 cc)).setCell ⟨w.heap.size,4,none⟩ (.slice ai li ci)).setCell ⟨w.heap.size+1,0,none⟩ (.int .i64 (r.id:Nat))).setCell ⟨w.heap.size+1,1,none⟩ (.slice av 2 cv)):=
  Uf w6 _ _ _ _ _ _ _
 refine bodyPost_ret (v:= .tuple #[.agg #[.int .i64 1,.int .i64 (nx:Nat),.string tnm,.slice ac 2 cc,.slice ai li ci],.agg #[.int .i64 (r.id:Nat),.slice av 2 cv],.nilIface]) (Hq Tryz.results30 _ _ _ _ rfl rfl rfl (G6 hv62) (OP hv72)) rfl ⟨ac,ai,2,cc,li,ci,av,cv,rfl,?_,HRW.out.only ho HAV.out,Aa.below HB6.out ho HB6.out.size (fun i e=>by rcases e with e|e<;>omega)⟩;have:=HE6.out.only ho (fun b e=>by have:=HLT.out.1;rcases e with e|e<;>omega);exact⟨AE this.cr (by have:=HLT.out.1;omega),AE this.nr (by have:=HLT.out.1;omega),this.ll⟩
end
section
variable {bs bc bw bp bm N k nx:Nat} {c:Sts} {R:List Rw} {ib:Bool} {D:List Nd} {w:World}
theorem OY (h:Stw bs bc bw bp c bm N w) (hd:StD c k R nx ib D) (hk:k<250) {row:Int} (hno:∀r∈R,row≠(r.id:Int)) (hr1: -9223372036854775808<=row) (hr2:row<=9223372036854775807):
  Calls Tryz.prog 30 #[.pointer (some ⟨bs,0,none⟩),.string tnm,.int .i64 row] w fun e w'=>∃ac ai lc cc li ci,e= .returned (.tuple #[.agg #[.int .i64 1,.int .i64 (nx:Nat),.string tnm,.slice ac lc cc,.slice ai li ci],.agg #[.int .i64 0,.slice none 0 0],.iface 101 (.int .i64 7)])/\Below w.heap.size w w':=by
 obtain⟨W1,hW1⟩:∃W1,(w.alloc (.cells #[.int .i64 0,.int .i64 0,.string ⟨#[]⟩,.slice none 0 0,.slice none 0 0] 92)).alloc (.cells #[.int .i64 0,.slice none 0 0] 57)=W1:=⟨_,rfl⟩;have hb1:Below w.heap.size w W1:=by rw[<-hW1];exact((Below.refl _ w).alloc (Nat.le_refl _) _).alloc (by simp) _
 have v6:Ac w.heap.size [.int .i64 0,.int .i64 0,.string ⟨#[]⟩,.slice none 0 0,.slice none 0 0] W1:=by rw[<-hW1];exact(Ac.new w #[.int .i64 0,.int .i64 0,.string ⟨#[]⟩,.slice none 0 0,.slice none 0 0] 92 (by simp)).below ((Below.refl _ _).alloc (Nat.le_refl _) _)
 have v7:Ac (w.heap.size+1) [.int .i64 0,.slice none 0 0] W1:=by
  rw[<-hW1];have:=Ac.new (w.alloc (.cells #[.int .i64 0,.int .i64 0,.string ⟨#[]⟩,.slice none 0 0,.slice none 0 0] 92)) #[.int .i64 0,.slice none 0 0] 57 (by simp);rw[World.size_alloc]at this;exact this
 have HS1:Hid (Stw bs bc bw bp c bm N W1):=h.below hb1;have HV6:Hid _:=v6;have HV7:Hid _:=v7;have HB1:Hid _:=hb1;have HG:Hid _:=Fi HS1.out hd hk;have HD:Hid _:=hd;have HNO:Hid _:=hno;have HL:Hid (bp<w.heap.size/\bm<w.heap.size):=⟨h.lt.1,h.lt.2.1⟩;have q0:=HS1.out.v.cell 0 (by simp);simp only[List.getElem_cons_zero]at q0;clear h hd hno hb1 v6 v7;go_enter Tryz.func30,Tryz.ntmps30;go_wp2_with fail;refine(show Calls _ _ _ _ _ from HG.out).mono ?_;rintro _ w2 ⟨ac,ai,lc,cc,li,ci,rfl,he2,hb2⟩;obtain⟨W3,hW3⟩:∃W3,w2.alloc (.cells #[.int .i64 1,.int .i64 (nx:Nat),.string tnm,.slice ac lc cc,.slice ai li ci] 92)=W3:=⟨_,rfl⟩;have hb3:Below w2.heap.size w2 W3:=by rw[<-hW3];exact(Below.refl _ w2).alloc (Nat.le_refl _) _
 have v9:Ac w2.heap.size [.int .i64 1,.int .i64 (nx:Nat),.string tnm,.slice ac lc cc,.slice ai li ci] W3:=by rw[<-hW3];exact Ac.new w2 #[.int .i64 1,.int .i64 (nx:Nat),.string tnm,.slice ac lc cc,.slice ai li ci] 92 (by simp)
 have hb13:Below W1.heap.size W1 W3.drew:=hb2.trans (hb3.drew.mono hb2.size);have HS3:Hid (Stw bs bc bw bp c bm N W3.drew):=HS1.out.below hb13;have HE3:Hid (Cm W1.heap.size (tbl nx ib) ac ai lc cc li ci W3.drew):=he2.below hb3.drew;have HV63:Hid (Ac w.heap.size [.int .i64 0,.int .i64 0,.string ⟨#[]⟩,.slice none 0 0,.slice none 0 0] W3.drew):=HV6.out.below hb13;have HV73:Hid (Ac (w.heap.size+1) [.int .i64 0,.slice none 0 0] W3.drew):=HV7.out.below hb13;have HV93:Hid (Ac w2.heap.size [.int .i64 1,.int .i64 (nx:Nat),.string tnm,.slice ac lc cc,.slice ai li ci] W3.drew):=v9.drew;have HB3:Hid (Below w.heap.size w W3.drew):=HB1.out.trans (hb13.mono HB1.out.size);have HLT:Hid (w.heap.size+2<=W1.heap.size/\W1.heap.size<=w2.heap.size):=⟨by have:=HV7.out.lt;omega,hb2.size⟩;have HRK:Hid (∀wx,Calls Tryz.prog 70 #[.int .i64 1,.int .i64 row] wx fun e w'=>e= .returned (.string (rkZ 1 row))/\Below wx.heap.size wx w'):=fun wx=>Mw 1 row wx
 have HGT:Hid (∀wx,Stw bs bc bw bp c bm N wx->Calls Tryz.prog 77 #[.pointer (some ⟨c.tb 1,0,none⟩),.string (rkZ 1 row)] wx fun e w'=>e= .returned (.tuple #[.string ⟨#[]⟩,.iface 101 (.int .i64 7)])/\Below wx.heap.size wx w'):=fun wx hh=>by
  refine(V8 hh.t (r:=1) (by omega) (rkZ 1 row)).mono ?_;rintro e w' ⟨hg,hb⟩;rcases hg with⟨x,hx,hxk,rfl⟩|⟨_,rfl⟩
  ·obtain⟨q,hq,rfl⟩:=(HD.out.m1 x).1 hx
   have:=(HD.out.ok q hq).1.id;exact absurd ((U4 hr1 hr2 (by omega)).1 hxk) (HNO.out q hq)
  ·exact⟨rfl,hb⟩
 obtain⟨K,hK⟩:∃K,rkZ 1 row=K:=⟨_,rfl⟩;rw[hK]at HRK HGT;have D0:Hid (W3.drew.cell? ⟨bs,3,none⟩=some (.pointer (some ⟨c.tb 1,0,none⟩))/\W3.drew.cell? ⟨w2.heap.size,0,none⟩=some (.int .i64 1)):=⟨HS3.out.v.cell 3 (by simp),HV93.out.cell 0 (by simp)⟩;have q5:=D0.out.1;have q6:=D0.out.2;clear he2 hb2 hb3 v9 hb13 HV6 HV7 HS1 HB1 HG hK q0 q5 q6 hW1;go_wp2_with fail
 go_region_held3 (fun wx=>wx.cell? ⟨bs,3,none⟩=some (.pointer (some ⟨c.tb 1,0,none⟩))/\wx.cell? ⟨w2.heap.size,0,none⟩=some (.int .i64 1)) (first|exact D0.out|exact D1.out|exact D2.out) (first|(go_at_call 70;refine(show Calls _ _ _ _ _ from HRK.out _).mono ?_;rintro _ w4 ⟨rfl,hb4⟩;have HBK:Hid (Below W3.drew.heap.size W3.drew w4):=hb4;have HS4:Hid (Stw bs bc bw bp c bm N w4):=HS3.out.below hb4;have D1:Hid (w4.cell? ⟨bs,3,none⟩=some (.pointer (some ⟨c.tb 1,0,none⟩))/\w4.cell? ⟨w2.heap.size,0,none⟩=some (.int .i64 1)):=⟨Ae hb4 D0.out.1,Ae hb4 D0.out.2⟩;clear hb4)|(go_at_call 77;refine(show Calls _ _ _ _ _ from HGT.out _ HS4.out).mono ?_;rintro _ w5 ⟨rfl,hb5⟩;have HBL:Hid (Below W3.drew.heap.size W3.drew w5):=HBK.out.trans (hb5.mono HBK.out.size);have D2:Hid (w5.cell? ⟨bs,3,none⟩=some (.pointer (some ⟨c.tb 1,0,none⟩))/\w5.cell? ⟨w2.heap.size,0,none⟩=some (.int .i64 1)):=⟨Ae hb5 D1.out.1,Ae hb5 D1.out.2⟩;clear hb5))
 have HV65:Hid _:=HV63.out.below HBL.out;have HV75:Hid _:=HV73.out.below HBL.out;have HV95:Hid _:=HV93.out.below HBL.out;have HB5:Hid (Below w.heap.size w w5):=HB3.out.trans (HBL.out.mono HB3.out.size);obtain⟨p0,p1,p2,p3,p4⟩:=HV95.out.c5;have f0:=HV65.out.free 0;have f1:=HV65.out.free 1;have f2:=HV65.out.free 2;have f3:=HV65.out.free 3;have f4:=HV65.out.free 4;have g0:=HV75.out.free 0;have g1:=HV75.out.free 1;obtain⟨d0,d1,d2,d3,d4⟩:=HV65.out.c5;have k0:=HV75.out.cell 0 (by simp);have k1:=HV75.out.cell 1 (by simp);simp only[List.getElem_cons_zero,List.getElem_cons_succ]at k0 k1;clear D0 D1 D2 HS3 HE3 HV63 HV73 HV93 HB3 hW3;go_wp2;have hv6:=((((HV65.out.set 0 (.int .i64 1)).set 1 (.int .i64 (nx:Nat))).set 2 (.string tnm)).set 3 (.slice ac lc cc)).set 4 (.slice ai li ci);have hv7:=(((((HV75.out.far (C:=w.heap.size) (o:=0) (u:= .int .i64 1) (by omega)).far (C:=w.heap.size) (o:=1) (u:= .int .i64 (nx:Nat)) (by omega)).far (C:=w.heap.size) (o:=2) (u:= .string tnm) (by omega)).far (C:=w.heap.size) (o:=3) (u:= .slice ac lc cc) (by omega)).far (C:=w.heap.size) (o:=4) (u:= .slice ai li ci) (by omega));have hv72:=(hv7.set 0 (.int .i64 0)).set 1 (.slice none 0 0);have hv62:=(hv6.far (C:=w.heap.size+1) (o:=0) (u:= .int .i64 0) (by omega)).far (C:=w.heap.size+1) (o:=1) (u:= .slice none 0 0) (by omega)
 have ho:Aa (fun b=>b=w.heap.size\/b=w.heap.size+1) w5 (((((((w5.setCell ⟨w.heap.size,0,none⟩ (.int .i64 1)).setCell ⟨w.heap.size,1,none⟩ (.int .i64 (nx:Nat))).setCell ⟨w.heap.size,2,none⟩ (.string tnm)).setCell ⟨w.heap.size,3,none⟩ (.slice ac lc cc)).setCell ⟨w.heap.size,4,none⟩ (.slice ai li ci)).setCell ⟨w.heap.size+1,0,none⟩ (.int .i64 0)).setCell ⟨w.heap.size+1,1,none⟩ (.slice none 0 0)):=
  Uf w5 _ _ _ _ _ _ _
 exact bodyPost_ret (v:= .tuple #[.agg #[.int .i64 1,.int .i64 (nx:Nat),.string tnm,.slice ac lc cc,.slice ai li ci],.agg #[.int .i64 0,.slice none 0 0],.iface 101 (.int .i64 7)]) (Hq Tryz.results30 _ _ _ _ rfl rfl rfl (G6 hv62) (OP hv72)) rfl ⟨ac,ai,lc,cc,li,ci,rfl,Aa.below HB5.out ho HB5.out.size (fun i e=>by rcases e with e|e<;>omega)⟩
end
theorem A9 {P:Program} {ops:Array Oper} {rest:List Oper} {op:Oper} {a:Act} {w:World} {Q:Exit->Act->World->Prop} (hgd:op.guard=none) (ty:TypeId) (x y:Operand) (ho:op.op= .store ty x y)
  (B:Nat) (l new:List Value) (hx:a.eval x= .pointer (some ⟨B,0,none⟩)) (hy:a.eval y= .agg new.toArray) (hv:Ac B l w) (hl:new.length=l.length) (hi:(P.info? ty).map (·.size)=some new.length) (h1:new.toArray.all (·.oneCell')=true)
  (h:∀w',Ac B new w'->Aa (fun b=>b=B) w w'->wpList P ops Q rest (a.put op.dst undef) w'):wpList P ops Q (op::rest) a w:=by
 have ht:w.there B 0 new.toArray.size:=fun j hj=>by
  have hj2:j<l.length:=by rw[<-hl];simpa using hj
  exact⟨by rw[Nat.zero_add,hv.cell j hj2];simp,by rw[Nat.zero_add];exact hv.free j⟩
 refine wpList_store_mid hgd ty x y ho B 0 new.toArray hx hy ht (by rw[hi];simp) h1 ?_
 have key:∀(vs:List Value) (o:Nat) (l:List Value) (w:World),Ac B l w->o+vs.length=l.length->Ac B (l.take o++vs) (w.setCells B o vs):=by
  intro vs
  induction vs with
  |nil=>
   intro o l w h e;have e2:o=l.length:=by simpa using e
   subst e2;have e3:w.setCells B l.length []=w:=rfl;rw[e3,List.take_length,List.append_nil];exact h
  |cons v vs ih=>
   intro o l w h e;have h2:=ih (o+1) (l.set o v) (w.setCell ⟨B,o,none⟩ v) (h.set o v) (by rw[List.length_set];simp at e;omega)
   have e3:(l.set o v).take (o+1)++vs=l.take o++v::vs:=by
    have ho:o<l.length:=by simp at e;omega
    rw[List.take_succ_eq_append_getElem (by rw[List.length_set];exact ho),List.take_set_of_le (Nat.le_refl _)];simp
   rw[e3]at h2;exact h2
 have hk:=key new 0 l w hv (by rw[hl];simp);simp only[List.take_zero,List.nil_append]at hk;exact h _ hk (Aa.setCells B new 0 w)
theorem Ip (w:World):Below w.heap.size w ((w.alloc (.cells #[.int .i64 0,.int .i64 0,.string ⟨#[]⟩,.slice none 0 0,.slice none 0 0] 92)).alloc (.cells #[.int .i64 0,.slice none 0 0] 57))/\Ac w.heap.size [.int .i64 0,.int .i64 0,.string ⟨#[]⟩,.slice none 0 0,.slice none 0 0] ((w.alloc (.cells #[.int .i64 0,.int .i64 0,.string ⟨#[]⟩,.slice none 0 0,.slice none 0 0] 92)).alloc (.cells #[.int .i64 0,.slice none 0 0] 57))/\Ac (w.heap.size+1) [.int .i64 0,.slice none 0 0] ((w.alloc (.cells #[.int .i64 0,.int .i64 0,.string ⟨#[]⟩,.slice none 0 0,.slice none 0 0] 92)).alloc (.cells #[.int .i64 0,.slice none 0 0] 57)):=by
 refine⟨((Below.refl _ w).alloc (Nat.le_refl _) _).alloc (by simp) _,(Ac.new w #[.int .i64 0,.int .i64 0,.string ⟨#[]⟩,.slice none 0 0,.slice none 0 0] 92 (by simp)).below ((Below.refl _ _).alloc (Nat.le_refl _) _),?_⟩;have:=Ac.new (w.alloc (.cells #[.int .i64 0,.int .i64 0,.string ⟨#[]⟩,.slice none 0 0,.slice none 0 0] 92)) #[.int .i64 0,.slice none 0 0] 57 (by simp);rw[World.size_alloc]at this;exact this
theorem OV:(Tryz.prog.info? 92).map (·.size)=some 5:=by kernel_rfl
theorem OW:(Tryz.prog.info? 57).map (·.size)=some 2:=by kernel_rfl
theorem Tj (x y:Int) (t:ByteArray) (a1 a2:Option Addr) (l1 c1 l2 c2:Nat):([.int .i64 x,.int .i64 y,.string t,.slice a1 l1 c1,.slice a2 l2 c2]:List Value).toArray.all (·.oneCell')=true:=all_oneCell_toArray (by
 intro v hv;simp only[List.mem_cons,List.not_mem_nil,or_false]at hv;rcases hv with rfl|rfl|rfl|rfl|rfl<;>rfl)
theorem Tk (x:Int) (a1:Option Addr) (l1 c1:Nat):([.int .i64 x,.slice a1 l1 c1]:List Value).toArray.all (·.oneCell')=true:=all_oneCell_toArray (by
 intro v hv;simp only[List.mem_cons,List.not_mem_nil,or_false]at hv;rcases hv with rfl|rfl<;>rfl)
section
variable {bs bc bw bp bm N k nx:Nat} {c:Sts} {R:List Rw} {ib:Bool} {D:List Nd} {w:World}
theorem StD.mems (h:StD c k R nx ib D) {r:Rw} (hr:r∈R):c.M 1 (rkP 1 r)/\c.M 2 (ikP 1 0 r)/\(ib=true->c.M 2 (ikP 1 1 r)):=
 ⟨(h.m1 _).2 ⟨r,hr,rfl⟩,(h.m2 _).2 ⟨r,hr,.inl rfl⟩,fun e=>(h.m2 _).2 ⟨r,hr,.inr ⟨e,rfl⟩⟩⟩
end
section
variable {bs bc bw bp bm N k nx:Nat} {c:Sts} {R:List Rw} {ib:Bool} {D:List Nd} {w:World}
set_option maxHeartbeats 1000000
theorem J7 (h:Stw bs bc bw bp c bm N w) (hd:StD c k R nx ib D) (hk:k<250) (hN:N+9000<1000000) {r:Rw} (hr:r∈R) {row:Int} (hrow:row=(r.id:Nat)):
  Calls Tryz.prog 8 #[.pointer (some ⟨bs,0,none⟩),.string tnm,.int .i64 row] w fun e w'=>e= .returned .nilIface/\Stw bs bc bw bp (dW (d2 c r ib) r D) bm (N+2200) w'/\Aa (fun b=>b=bp\/b=bm) w w':=by
 subst hrow;have HF:Hid _:=Na h hd hk hr rfl;have HS:Hid _:=h;have HD:Hid _:=hd;have HR:Hid _:=hr;have HL:Hid (bp<w.heap.size/\bm<w.heap.size):=⟨h.lt.1,h.lt.2.1⟩;clear h hd hr;go_enter Tryz.func8,Tryz.ntmps8;go_wp2_with fail;refine(show Calls _ _ _ _ _ from HF.out).mono ?_;rintro _ w1 ⟨ac,ai,lc,cc,li,ci,av,cv,rfl,he1,hr1,hb1⟩;obtain⟨hbn,hv5,hv2⟩:=Ip w1;obtain⟨W,hW⟩:∃W,(w1.alloc (.cells #[.int .i64 0,.int .i64 0,.string ⟨#[]⟩,.slice none 0 0,.slice none 0 0] 92)).alloc (.cells #[.int .i64 0,.slice none 0 0] 57)=W:=⟨_,rfl⟩;rw[hW]at hbn hv5 hv2;have HV5:Hid _:=hv5;have HV2:Hid _:=hv2;have HBN:Hid _:=hbn;have HE1:Hid _:=he1;have HR1:Hid _:=hr1;have HB1:Hid _:=hb1;clear he1 hr1 hb1 HF hv5 hv2 hbn
 go_wp2_with (first
  |(refine A9 rfl 92 _ _ rfl w1.heap.size [.int .i64 0,.int .i64 0,.string ⟨#[]⟩,.slice none 0 0,.slice none 0 0] [.int .i64 1,.int .i64 (nx:Nat),.string tnm,.slice ac lc cc,.slice ai li ci] rfl rfl HV5.out rfl OV (Tj _ _ _ _ _ _ _ _ _) ?_;intro w3 hv3 ho3;have HV53:Hid (Ac w1.heap.size [.int .i64 1,.int .i64 (nx:Nat),.string tnm,.slice ac lc cc,.slice ai li ci] w3):=hv3;have HO3:Hid (Aa (fun b=>b=w1.heap.size) W w3):=ho3;clear hv3 ho3)
  |(refine A9 rfl 57 _ _ rfl (w1.heap.size+1) [.int .i64 0,.slice none 0 0] [.int .i64 (r.id:Nat),.slice av 2 cv] rfl rfl (HV2.out.only HO3.out (fun e=>by omega)) rfl OW (Tk _ _ _ _) ?_;intro w4 hv4 ho4;have HV24:Hid (Ac (w1.heap.size+1) [.int .i64 (r.id:Nat),.slice av 2 cv] w4):=hv4;have HO4:Hid (Aa (fun b=>b=w1.heap.size+1) w3 w4):=ho4;have HV54:Hid (Ac w1.heap.size [.int .i64 1,.int .i64 (nx:Nat),.string tnm,.slice ac lc cc,.slice ai li ci] w4):=HV53.out.only ho4 (fun e=>by omega);obtain⟨d0,d1,d2,d3,d4⟩:=HV54.out.c5;have k0:=HV24.out.cell 0 (by simp);have k1:=HV24.out.cell 1 (by simp);simp only[List.getElem_cons_zero,List.getElem_cons_succ]at k0 k1;clear hv4 ho4))
 have HBW:Hid (Below w1.heap.size w1 w4):=Aa.below (Aa.below HBN.out HO3.out HBN.out.size (fun i e=>by omega)) HO4.out (by have:=HBN.out.size;have:=HO3.out.size;omega) (fun i e=>by omega);have HB4:Hid (Below w.heap.size w w4):=HB1.out.trans (HBW.out.mono HB1.out.size);have hm:=HD.out.mems HR.out;have HTK:Hid _:=Ko (HS.out.below HB4.out) (HE1.out.below HBW.out) (HR1.out.below HBW.out) HL.out (HD.out.ok r HR.out).1 HD.out.nd HD.out.m3 hm.1 hm.2.1 hm.2.2 HD.out.z3 hN;clear d0 d1 d2 d3 d4 k0 k1 hW hm;refine(show Calls _ _ _ _ _ from HTK.out).mono ?_;rintro _ w5 ⟨rfl,hs5,ho5⟩;have HS5:Hid _:=hs5;have HO5:Hid (Aa (fun b=>b=bp\/b=bm) w w5):=(Ab HB4.out _).trans ho5 (fun _ e=> .inl e);clear hs5 ho5 HTK;go_wp2;go_ret;exact⟨rfl,HS5.out,HO5.out⟩
theorem Q5 (h:Stw bs bc bw bp c bm N w) (hd:StD c k R nx ib D) (hk:k<250) {row:Int} (hno:∀r∈R,row≠(r.id:Int)) (hr1: -9223372036854775808<=row) (hr2:row<=9223372036854775807):
  Calls Tryz.prog 8 #[.pointer (some ⟨bs,0,none⟩),.string tnm,.int .i64 row] w fun e w'=>e= .returned (.iface 101 (.int .i64 7))/\Below w.heap.size w w':=by
 have HF:Hid _:=OY h hd hk hno hr1 hr2;clear h hd hno;go_enter Tryz.func8,Tryz.ntmps8;go_wp2_with fail;refine(show Calls _ _ _ _ _ from HF.out).mono ?_;rintro _ w1 ⟨ac,ai,lc,cc,li,ci,rfl,hb1⟩;obtain⟨hbn,hv5,hv2⟩:=Ip w1;obtain⟨W,hW⟩:∃W,(w1.alloc (.cells #[.int .i64 0,.int .i64 0,.string ⟨#[]⟩,.slice none 0 0,.slice none 0 0] 92)).alloc (.cells #[.int .i64 0,.slice none 0 0] 57)=W:=⟨_,rfl⟩;rw[hW]at hbn hv5 hv2;have HV5:Hid _:=hv5;have HV2:Hid _:=hv2;have HBN:Hid _:=hbn;have HB1:Hid _:=hb1;clear hb1 HF hv5 hv2 hbn
 go_wp2_with (first
  |(refine A9 rfl 92 _ _ rfl w1.heap.size [.int .i64 0,.int .i64 0,.string ⟨#[]⟩,.slice none 0 0,.slice none 0 0] [.int .i64 1,.int .i64 (nx:Nat),.string tnm,.slice ac lc cc,.slice ai li ci] rfl rfl HV5.out rfl OV (Tj _ _ _ _ _ _ _ _ _) ?_;intro w3 hv3 ho3;have HO3:Hid (Aa (fun b=>b=w1.heap.size) W w3):=ho3;clear hv3 ho3)
  |(refine A9 rfl 57 _ _ rfl (w1.heap.size+1) [.int .i64 0,.slice none 0 0] [.int .i64 0,.slice none 0 0] rfl rfl (HV2.out.only HO3.out (fun e=>by omega)) rfl OW (Tk _ _ _ _) ?_;intro w4 hv4 ho4;have HO4:Hid (Aa (fun b=>b=w1.heap.size+1) w3 w4):=ho4;clear hv4 ho4))
 go_ret;have hbw:Below w1.heap.size w1 w4:=Aa.below (Aa.below HBN.out HO3.out HBN.out.size (fun i e=>by omega)) HO4.out (by have:=HBN.out.size;have:=HO3.out.size;omega) (fun i e=>by omega);exact⟨rfl,HB1.out.trans (hbw.mono HB1.out.size)⟩
end
theorem UA {bp bm N r:Nat} {c:Sts} {w:World} (h:StS bp c bm N w) (hr:r<4) (beg:ByteArray):
  Calls Tryz.prog 26 #[.pointer (some ⟨c.tb r,0,none⟩),.string beg] w fun e w'=>∃a n cp L,e= .returned (.tuple #[.slice a n cp,.nilIface])/\L.length=n/\BU w.heap.size (.slice a n cp) L w'/\L.Pairwise (fun a b=>bl a.k b.k=true)/\(∀x,x∈L↔c.M r x/\pfx beg 0 x.k=true)/\Below w.heap.size w w':=by
 obtain⟨N1,up,V,T,h1,h2,h3,h4⟩:=h;refine(ED w (h2.t r hr) h2.tw (h2.a r hr) beg).mono ?_;rintro e w' ⟨v,rfl,hp,hb⟩;have hs:(T r).all.Pairwise (fun a b=>bl a.k b.k=true):=(h2.a r hr).ok.sorted;rw[IB _ _ _ hs]at hp;obtain⟨a,cp,rfl⟩:=Aj hp;refine⟨a,_,cp,_,rfl,rfl,hp,hs.filter _,fun x=> ?_,hb⟩;rw[List.mem_filter,h4 r hr x]
theorem Jj {i:Nat} (h:i<256):Av i 8=[0,0,0,0,0,0,0,UInt8.ofNat i]:=by
 unfold Av;have e:List.range 8=[0,1,2,3,4,5,6,7]:=rfl;rw[e];simp only[List.map_cons,List.map_nil,Nat.reduceSub,Nat.reducePow];rw[Nat.div_eq_of_lt (by omega),Nat.div_eq_of_lt (by omega),Nat.div_eq_of_lt (by omega),Nat.div_eq_of_lt (by omega),Nat.div_eq_of_lt (by omega),Nat.div_eq_of_lt (by omega),Nat.div_eq_of_lt (by omega),Nat.div_one];rfl
theorem U6 {i j:Nat} (hj:j<256) (h:i<j):bl (rkB 1 i) (rkB 1 j)=true:=by
 rw[Ch];unfold rkB;rw[A0,A0,Jj (by omega),Jj hj];refine De _ _ _ ?_;have key:∀(a b:UInt8),a<b->([0,0,0,0,0,0,0,a]:List UInt8)< [0,0,0,0,0,0,0,b]:=fun a b h=>De [0,0,0,0,0,0,0] [a] [b] (by rw[List.cons_lt_cons_iff];exact .inl h);refine key _ _ ?_;rw[UInt8.lt_iff_toNat_lt];simp;omega
section
variable {c:Sts} {k nx:Nat} {R:List Rw} {ib:Bool} {D:List Nd}
theorem U3 (r:Rw):pfx (tkB 1) 0 (rkP 1 r).k=true:=by
 unfold pfx Lib.hasPrefix tkB rkP rkB;simp only[A0];exact Jf _ _
theorem StD.rows (h:StD c k R nx ib D) {L:List Pr} (hs:L.Pairwise (fun a b=>bl a.k b.k=true)) (hm:∀x,x∈L↔c.M 1 x/\pfx (tkB 1) 0 x.k=true):L=R.map (rkP 1):=by
 refine EA _ _ hs ?_ (fun x=> ?_)
 ·rw[List.pairwise_map]
  refine List.Pairwise.imp_of_mem (fun {a b} ha hb hab=> ?_) h.ids;have:=(h.ok b hb).1.id;exact U6 (by omega) hab
 ·rw[hm x,h.m1 x,List.mem_map]
  constructor
  ·rintro⟨⟨r,hr,rfl⟩,_⟩
   exact⟨r,hr,rfl⟩
  ·rintro⟨r,hr,rfl⟩
   exact⟨⟨r,hr,rfl⟩,U3 r⟩
theorem StD.took (h:StD c k R nx ib D):StD (c.put 0 (·∈[tbl (nx+1) ib].flatMap Tb.prs) 300) (k+1) R (nx+1) ib D:=by
 refine⟨fun x=>Iff.rfl,h.m1,h.m2,h.m3,by show c.Z 1<=_;have:=h.z1;omega,?_,h.z3,fun r hr=>⟨(h.ok r hr).1,by have:=(h.ok r hr).2;omega⟩,h.ids,⟨by omega,by have:=h.nx.2;omega⟩,h.nd,h.ds⟩;show c.Z 2<=_;have:=h.z2;omega
end
end
end Go.Proofs.YtihnldkgeelehaaGreatDoor
