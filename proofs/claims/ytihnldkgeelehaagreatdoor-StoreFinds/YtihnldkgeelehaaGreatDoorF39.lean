/- StoreFinds: part 39. -/
import Derived.Test.YtihnldkgeelehaaGreatDoorF38
set_option maxRecDepth 100000
set_option maxHeartbeats 4000000
namespace Go.Proofs.YtihnldkgeelehaaGreatDoor
section
open Go.RowKit Go.Maps
section
variable {bs bc bw bp bm N k nx cap:Nat} {c:Sts} {R:List Rw} {ib:Bool} {D:List Nd} {w:World} {a:Option Addr}
def Mb (bs bc bw bp bm N:Nat) (tb:Nat->Nat) (bd:Nat) (G:Sts->Prop) (w:World) (e:Ending) (ok:Value) (bad:Value->Value) (F:Prop) (w':World):Prop:=
 (∃c',G c'/\c'.tb=tb/\c'.bd=bd/\e= .returned ok/\Stw bs bc bw bp c' bm (N+4000) w'/\Aa (fun b=>b=bp\/b=bm) w w')\/
 (F/\∃t v c',c'.tb=tb/\c'.bd=bd/\e= .returned (bad (.iface t v))/\Stw bs bc bw bp c' bm (N+4000) w'/\Aa (fun b=>b=bp\/b=bm) w w')
theorem TR (c:Sts) (r:Rw) (ib:Bool) (D:List Nd):(cW (c2 c r ib) r D).tb=c.tb:=by unfold cW c2;cases ib<;>rfl
theorem TS (c:Sts) (r:Rw) (ib:Bool) (D:List Nd):(cW (c2 c r ib) r D).bd=c.bd:=by unfold cW c2;cases ib<;>rfl
theorem StD.zs (h:StD c k R nx ib D) (hk:k<198):c.Z 1+100<=30000/\c.Z 2+120<=30000:=by
 have h1:=h.z1;have h2:=h.z2;have:(if ib=true then 6000 else 0)<=6000:=by cases ib<;>decide
 omega
def inL (x y:Vl):List Vl:=[x,y]
theorem NM {x y:Vl} {nx:Nat} {ib:Bool} {id:Nat} (h:okL (tbl nx ib).cs (inL x y)) (hx:CQ x) (hy:CQ y) (hid:1<=id/\id<256):Rw.Ok ⟨id,x,y⟩:=by
 have h0:wrE S3 x=0:=h 0 (by show 0<2;decide) (by show 0<2;decide);have h1:wrE (In ib) y=0:=h 1 (by show 1<2;decide) (by show 1<2;decide);refine⟨hid,hx,hy,Ft h0,Ft h1,?_⟩;have hr:=Ft h1;unfold wrE at h1;rw[if_neg (by rw[hr];decide)]at h1
 by_cases e:y.k≠0/\y.k≠((In ib).kd:Int)
 ·rw[if_pos e]at h1;cases h1
 ·by_cases e0:y.k=0
  ·exact .inl e0
  ·right
   have:¬y.k≠((In ib).kd:Int):=fun e2=>e ⟨e0,e2⟩;have h2:((In ib).kd:Int)=2:=rfl;rw[h2]at this;show y.k=2;omega
set_option maxHeartbeats 2000000
theorem Hy (h:Stw bs bc bw bp c bm N w) (hd:StD c k R nx ib D) (hk:k<100) (hN:N+10000<1000000) {x y:Vl} (hv:BY w a 2 (inL x y)) (ha:∀ad,a=some ad->ad.block≠bp/\ad.block≠bm) (hcap:2<=cap) (hx:CQ x) (hy:CQ y):
  Calls Tryz.prog 7 #[.pointer (some ⟨bs,0,none⟩),.string tnm,.slice a 2 cap] w fun e w'=>Mb bs bc bw bp bm N c.tb c.bd (fun c'=>StD c' (k+2) (Fg ⟨nx,x,y⟩ R) (nx+1) ib (CN D A2 (nx:Nat) y.s)) w e (.tuple #[.int .i64 (nx:Nat),.nilIface]) (fun u=> .tuple #[.int .i64 0,u]) (¬okL (tbl nx ib).cs (inL x y)\/addE D A2 (nx:Nat) y.s≠0) w':=by
 have HG:Hid _:=Fi h hd (by omega);have HS:Hid _:=h;have HD:Hid _:=hd;have HV:Hid (BY w a 2 (inL x y)):=hv;have HAD:Hid _:=ha;have HX:Hid (CQ x/\CQ y):=⟨hx,hy⟩;have HL:Hid (bp<w.heap.size/\bm<w.heap.size):=⟨h.lt.1,h.lt.2.1⟩;have q0:=h.v.cell 0 (by simp);simp only[List.getElem_cons_zero]at q0;clear h hd hv ha;go_enter Tryz.func7,Tryz.ntmps7;go_wp2_with fail;refine(show Calls _ _ _ _ _ from HG.out).mono ?_;rintro _ w1 ⟨ac,ai,lc,cc,li,ci,rfl,he1,hb1⟩;have hv8:=Ac.new w1 #[.int .i64 1,.int .i64 (nx:Nat),.string tnm,.slice ac lc cc,.slice ai li ci] 92 (by simp);have hb2:Below w1.heap.size w1 (w1.alloc (.cells #[.int .i64 1,.int .i64 (nx:Nat),.string tnm,.slice ac lc cc,.slice ai li ci] 92)):=(Below.refl _ _).alloc (Nat.le_refl _) _;obtain⟨W,hW⟩:∃W,w1.alloc (.cells #[.int .i64 1,.int .i64 (nx:Nat),.string tnm,.slice ac lc cc,.slice ai li ci] 92)=W:=⟨_,rfl⟩;rw[hW]at hv8 hb2;have HE:Hid (Cm w.heap.size (tbl nx ib) ac ai lc cc li ci W):=he1.below hb2;have HB1:Hid (w.heap.size<=w1.heap.size):=hb1.size;have HB:Hid (Below w.heap.size w W):=hb1.trans (hb2.mono hb1.size);have HV8:Hid (Ac w1.heap.size [.int .i64 1,.int .i64 (nx:Nat),.string tnm,.slice ac lc cc,.slice ai li ci] W):=hv8;have HV2:Hid (BY W a 2 (inL x y)):=BY.below HV.out HB.out (Nat.le_refl _);have HS1:Hid (Stw bs bc bw bp c bm N W):=HS.out.below HB.out;have hlc:lc=2:=he1.ll.1.symm;subst hlc
 have HWR:Hid _:=I8 (cap:=cap) W HE.out.cr HV2.out (Nat.le_refl _) rfl (fun q hq=>by
  simp only[tbl,List.mem_cons,List.not_mem_nil,or_false]at hq;rcases hq with rfl|rfl
  ·exact .inl rfl
  ·exact .inr rfl) (fun q hq=>by
  simp only[inL,List.mem_cons,List.not_mem_nil,or_false]at hq;rcases hq with rfl|rfl
  ·exact HX.out.1
  ·exact HX.out.2)
 obtain⟨d0,d1,d2,d3,d4⟩:=HV8.out.c5;clear he1 hb1 hb2 hv8 q0 HG;go_wp2_with fail;refine(show Calls _ _ _ _ _ from HWR.out).mono ?_;rintro _ w2 ⟨hw,hb2⟩;have HB2:Hid (Below W.heap.size W w2):=hb2;have HS2:Hid (Stw bs bc bw bp c bm N w2):=HS1.out.below hb2;have HV82:Hid (Ac w1.heap.size [.int .i64 1,.int .i64 (nx:Nat),.string tnm,.slice ac 2 cc,.slice ai li ci] w2):=HV8.out.below hb2;have HBW:Hid (Below w.heap.size w w2):=HB.out.trans (hb2.mono HB.out.size);clear d0 d1 d2 d3 d4 hb2 hW;rcases hw with⟨hok,rfl⟩|⟨hnok,t,v,rfl⟩
 case inr=>
  have HNOK:Hid (¬okL (tbl nx ib).cs (inL x y)):=hnok;go_wp2;go_ret2;exact .inr ⟨.inl HNOK.out,t,v,c,rfl,rfl,rfl,HS2.out.mono (by omega),Ab HBW.out _⟩
 have HOK:Hid (Rw.Ok ⟨nx,x,y⟩):=NM hok HX.out.1 HX.out.2 (by have:=HD.out.nx;omega);have hkl:Bp (inL x y)=Bp (Rw.l ⟨nx,x,y⟩):=rfl;rw[hkl];obtain⟨It,hIt⟩:∃It,An (Bp (Rw.l ⟨nx,x,y⟩))=It:=⟨_,rfl⟩;have HIT:Hid _:=hIt;rw[hIt]
 have HP4:Hid (∀wx,Stw bs bc bw bp c bm N wx->Calls Tryz.prog 26 #[.pointer (some ⟨c.tb 1,0,none⟩),.string (tkB 1)] wx fun e w'=>∃a9 cp,e= .returned (.tuple #[.slice a9 R.length cp,.nilIface])/\Below wx.heap.size wx w'):=fun wx hh=>by
  refine(UA hh.t (r:=1) (by omega) (tkB 1)).mono ?_;rintro e w' ⟨a9,n,cp,L,rfl,hn,_,hs,hm,hb⟩;rw[<-hn,HD.out.rows hs hm,List.length_map];exact⟨a9,cp,rfl,hb⟩
 have HTK:Hid (∀wx,Calls Tryz.prog 27 #[.int .i64 1] wx fun e w'=>e= .returned (.string (tkB 1))/\Below wx.heap.size wx w'):=fun wx=>Dz 1 wx;have hlen:=HD.out.len;have hnx:=HD.out.nx;have h100:¬(100:Int)<=(R.length:Int):=by omega
 have D0:Hid (w2.drew.cell? ⟨bs,3,none⟩=some (.pointer (some ⟨c.tb 1,0,none⟩))/\w2.drew.cell? ⟨w1.heap.size,0,none⟩=some (.int .i64 1)):=⟨HS2.out.v.cell 3 (by simp),HV82.out.cell 0 (by simp)⟩;clear hok hkl hIt;go_wp2_with fail
 go_region_held3 (fun wx=>wx.cell? ⟨bs,3,none⟩=some (.pointer (some ⟨c.tb 1,0,none⟩))/\wx.cell? ⟨w1.heap.size,0,none⟩=some (.int .i64 1)) (first|exact D0.out|exact D1.out|exact D2.out) (first|(go_at_call 27;refine(show Calls _ _ _ _ _ from HTK.out _).mono ?_;rintro _ w4 ⟨rfl,hb4⟩;have HB4:Hid (Below w2.heap.size w2 w4):=(Below.refl _ w2).drew.trans hb4;have D1:Hid (w4.cell? ⟨bs,3,none⟩=some (.pointer (some ⟨c.tb 1,0,none⟩))/\w4.cell? ⟨w1.heap.size,0,none⟩=some (.int .i64 1)):=⟨Ae HB4.out D0.out.1,Ae HB4.out D0.out.2⟩;clear hb4)|(go_at_call 26;refine(show Calls _ _ _ _ _ from HP4.out _ (HS2.out.below HB4.out)).mono ?_;rintro _ w5 ⟨a9,cp,rfl,hb5⟩;have HB5:Hid (Below w2.heap.size w2 w5):=HB4.out.trans (hb5.mono HB4.out.size);have D2:Hid (w5.cell? ⟨bs,3,none⟩=some (.pointer (some ⟨c.tb 1,0,none⟩))/\w5.cell? ⟨w1.heap.size,0,none⟩=some (.int .i64 1)):=⟨Ae hb5 D1.out.1,Ae hb5 D1.out.2⟩;clear hb5))
 have HS5:Hid (Stw bs bc bw bp c bm N w5):=HS2.out.below HB5.out;have HV85:Hid (Ac w1.heap.size [.int .i64 1,.int .i64 (nx:Nat),.string tnm,.slice ac 2 cc,.slice ai li ci] w5):=HV82.out.below HB5.out;have q0:=HS5.out.v.cell 0 (by simp);simp only[List.getElem_cons_zero]at q0;obtain⟨m,hm⟩:=HS5.out.g.m;have HTO:Hid _:=QZ (HS5.out.cat (GN (nx:=nx) (by omega) ib) HD.out.m0) hm (by show nx+1<256;omega) (by omega);clear D0 D1 D2 hm;go_wp2_with fail;refine(show Calls _ _ _ _ _ from HTO.out).mono ?_;rintro _ w6 ⟨rfl,hc6,ho6⟩;have hs6:=HS5.out.ofCat hc6 ho6;have hne:∀b,(b=bp\/b=bm)->b<w.heap.size:=fun b e=>by have:=HL.out;rcases e with e|e<;>omega
 have HS6:Hid (Stw bs bc bw bp (c.put 0 (·∈[tbl (nx+1) ib].flatMap Tb.prs) 300) bm (N+40) w6):=hs6;have HD6:Hid (StD (c.put 0 (·∈[tbl (nx+1) ib].flatMap Tb.prs) 300) (k+1) R (nx+1) ib D):=HD.out.took;have hs1:w.heap.size<=w1.heap.size:=HB1.out;have HV86:Hid (Ac w1.heap.size [.int .i64 1,.int .i64 (nx:Nat),.string tnm,.slice ac 2 cc,.slice ai li ci] w6):=HV85.out.only ho6 (fun e=>by have:=hne _ e;omega);have HE6:Hid (Cm w.heap.size (tbl nx ib) ac ai 2 cc li ci w6):=((HE.out.below HB2.out).below HB5.out).upd HL.out ho6;have HR6:Hid (DY a cap bp bm ⟨nx,x,y⟩ w6):=DY.upd (⟨BY.below (BY.below HV2.out HB2.out (Nat.le_refl _)) HB5.out (Nat.le_refl _),HAD.out,hcap⟩:DY a cap bp bm ⟨nx,x,y⟩ w5) ho6;have HO6:Hid (Aa (fun b=>b=bp\/b=bm) w w6):=(Ab (HBW.out.trans (HB5.out.mono HBW.out.size)) _).trans ho6 (fun _ e=> .inl e);obtain⟨d0,d1,d2,d3,d4⟩:=HV86.out.c5;have hnxe:(tbl nx ib).nx=nx:=rfl;rw[hnxe];clear hc6 ho6 hs6 q0 hne hnxe;have hz:=HD6.out.zs (by omega);have hpt:=M8 HS6.out HE6.out HR6.out HL.out HOK.out HD6.out.nd HD6.out.m3 hz.1 hz.2 HD6.out.z3 (by omega);rw[HIT.out]at hpt;have HPT:Hid _:=hpt;clear hpt hz;go_wp2_with fail;refine(show Calls _ _ _ _ _ from HPT.out).mono ?_;rintro _ w7 (⟨rfl,h0,h1,h2⟩|⟨rfl,h0,h1,h2⟩)
 ·have H7:Hid (Mb bs bc bw bp bm N c.tb c.bd (fun c'=>StD c' (k+2) (Fg ⟨nx,x,y⟩ R) (nx+1) ib (CN D A2 (nx:Nat) y.s)) w (.returned (.tuple #[.int .i64 (nx:Nat),.nilIface])) (.tuple #[.int .i64 (nx:Nat),.nilIface]) (fun u=> .tuple #[.int .i64 0,u]) (¬okL (tbl nx ib).cs (inL x y)\/addE D A2 (nx:Nat) y.s≠0) w7):=
   .inl ⟨cW (c2 (c.put 0 (·∈[tbl (nx+1) ib].flatMap Tb.prs) 300) ⟨nx,x,y⟩ ib) ⟨nx,x,y⟩ D,HD6.out.put HOK.out (by show nx<nx+1;omega) (fun q hq e=>by have:=(HD.out.ok q hq).2;have e2:q.id=nx:=e;omega) h0,TR _ _ _ _,TS _ _ _ _,rfl,h1.mono (show N+40+1000<=N+4000 by omega),HO6.out.trans h2 (fun _ e=> .inl e)⟩
  clear h0 h1 h2 HPT;go_wp2;go_ret2;exact H7.out
 ·have H7:Hid (Mb bs bc bw bp bm N c.tb c.bd (fun c'=>StD c' (k+2) (Fg ⟨nx,x,y⟩ R) (nx+1) ib (CN D A2 (nx:Nat) y.s)) w (.returned (.tuple #[.int .i64 0,.iface 101 (.int .i64 (addE D A2 (nx:Nat) y.s))])) (.tuple #[.int .i64 (nx:Nat),.nilIface]) (fun u=> .tuple #[.int .i64 0,u]) (¬okL (tbl nx ib).cs (inL x y)\/addE D A2 (nx:Nat) y.s≠0) w7):=
   .inr ⟨.inr h0,101,.int .i64 (addE D A2 (nx:Nat) y.s),cW (c2 (c.put 0 (·∈[tbl (nx+1) ib].flatMap Tb.prs) 300) ⟨nx,x,y⟩ ib) ⟨nx,x,y⟩ D,TR _ _ _ _,TS _ _ _ _,rfl,h1.mono (show N+40+1000<=N+4000 by omega),HO6.out.trans h2 (fun _ e=> .inl e)⟩
  clear h0 h1 h2 HPT;go_wp2;go_ret2;exact H7.out
end
section
variable {bs bc bw bp bm N k nx cap:Nat} {c:Sts} {R:List Rw} {ib:Bool} {D:List Nd} {w:World} {a:Option Addr}
theorem TI (c:Sts) (r:Rw) (ib:Bool) (D:List Nd):(dW (d2 c r ib) r D).tb=c.tb:=by unfold dW d2;cases ib<;>rfl
theorem TJ (c:Sts) (r:Rw) (ib:Bool) (D:List Nd):(dW (d2 c r ib) r D).bd=c.bd:=by unfold dW d2;cases ib<;>rfl
theorem StD.more {k k':Nat} {c:Sts} {R:List Rw} {nx:Nat} {ib:Bool} {D:List Nd} (h:StD c k R nx ib D) (hk:k<=k':=by omega):StD c k' R nx ib D:=
 ⟨h.m0,h.m1,h.m2,h.m3,by have:=h.z1;omega,by have:=h.z2;omega,h.z3,h.ok,h.ids,by have:=h.nx;omega,h.nd,h.ds⟩
set_option maxHeartbeats 2000000
theorem Ny (h:Stw bs bc bw bp c bm N w) (hd:StD c k R nx ib D) (hk:k<100) (hN:N+12000<1000000) {r:Rw} (hr:r∈R) {row:Int} (hrow:row=(r.id:Nat)) {x y:Vl} (hv:BY w a 2 (inL x y)) (ha:∀ad,a=some ad->ad.block≠bp/\ad.block≠bm) (hcap:2<=cap) (hx:CQ x) (hy:CQ y):
  Calls Tryz.prog 9 #[.pointer (some ⟨bs,0,none⟩),.string tnm,.int .i64 row,.slice a 2 cap] w fun e w'=>Mb bs bc bw bp bm N c.tb c.bd (fun c'=>StD c' (k+2) (Fg ⟨r.id,x,y⟩ (Hf r.id R)) nx ib (CN (DT D A2 (r.id:Nat) r.b.s) A2 (r.id:Nat) y.s)) w e .nilIface (fun u=>u) True w':=by
 subst hrow;have HF:Hid _:=Na h hd (by omega) hr rfl;have HS:Hid _:=h;have HD:Hid _:=hd;have HR:Hid _:=hr;have HV:Hid (BY w a 2 (inL x y)):=hv;have HAD:Hid _:=ha;have HX:Hid (CQ x/\CQ y):=⟨hx,hy⟩;have HL:Hid (bp<w.heap.size/\bm<w.heap.size):=⟨h.lt.1,h.lt.2.1⟩;clear h hd hr hv ha;go_enter Tryz.func9,Tryz.ntmps9;go_wp2_with fail;refine(show Calls _ _ _ _ _ from HF.out).mono ?_;rintro _ w1 ⟨ac,ai,lc,cc,li,ci,av,cv,rfl,he1,hr1,hb1⟩;obtain⟨hbn,hv5,hv2⟩:=Ip w1;obtain⟨W,hW⟩:∃W,(w1.alloc (.cells #[.int .i64 0,.int .i64 0,.string ⟨#[]⟩,.slice none 0 0,.slice none 0 0] 92)).alloc (.cells #[.int .i64 0,.slice none 0 0] 57)=W:=⟨_,rfl⟩;rw[hW]at hbn hv5 hv2;have HV5:Hid _:=hv5;have HV2:Hid _:=hv2;have HBN:Hid _:=hbn;have HE1:Hid _:=he1;have HR1:Hid _:=hr1;have HB1:Hid _:=hb1;clear he1 hr1 hb1 HF hv5 hv2 hbn
 go_wp2_with (first
  |(refine A9 rfl 92 _ _ rfl w1.heap.size [.int .i64 0,.int .i64 0,.string ⟨#[]⟩,.slice none 0 0,.slice none 0 0] [.int .i64 1,.int .i64 (nx:Nat),.string tnm,.slice ac lc cc,.slice ai li ci] rfl rfl HV5.out rfl OV (Tj _ _ _ _ _ _ _ _ _) ?_;intro w3 hv3 ho3;have HV53:Hid (Ac w1.heap.size [.int .i64 1,.int .i64 (nx:Nat),.string tnm,.slice ac lc cc,.slice ai li ci] w3):=hv3;have HO3:Hid (Aa (fun b=>b=w1.heap.size) W w3):=ho3;clear hv3 ho3)
  |(refine A9 rfl 57 _ _ rfl (w1.heap.size+1) [.int .i64 0,.slice none 0 0] [.int .i64 (r.id:Nat),.slice av 2 cv] rfl rfl (HV2.out.only HO3.out (fun e=>by omega)) rfl OW (Tk _ _ _ _) ?_;intro w4 hv4 ho4;have HV24:Hid (Ac (w1.heap.size+1) [.int .i64 (r.id:Nat),.slice av 2 cv] w4):=hv4;have HO4:Hid (Aa (fun b=>b=w1.heap.size+1) w3 w4):=ho4;have HV54:Hid (Ac w1.heap.size [.int .i64 1,.int .i64 (nx:Nat),.string tnm,.slice ac lc cc,.slice ai li ci] w4):=HV53.out.only ho4 (fun e=>by omega);obtain⟨d0,d1,dd2,d3,d4⟩:=HV54.out.c5;have k0:=HV24.out.cell 0 (by simp);have k1:=HV24.out.cell 1 (by simp);simp only[List.getElem_cons_zero,List.getElem_cons_succ]at k0 k1;clear hv4 ho4))
 have HBW:Hid (Below w1.heap.size w1 w4):=Aa.below (Aa.below HBN.out HO3.out HBN.out.size (fun i e=>by omega)) HO4.out (by have:=HBN.out.size;have:=HO3.out.size;omega) (fun i e=>by omega);have HB4:Hid (Below w.heap.size w w4):=HB1.out.trans (HBW.out.mono HB1.out.size);have HV2w:Hid (BY w4 a 2 (inL x y)):=BY.below HV.out HB4.out (Nat.le_refl _);have he4:=HE1.out.below HBW.out;have hlc:lc=2:=he4.ll.1.symm;subst hlc;have HE4:Hid (Cm w.heap.size (tbl nx ib) ac ai 2 cc li ci w4):=he4
 have HWR:Hid _:=I8 (cap:=cap) w4 HE4.out.cr HV2w.out (Nat.le_refl _) rfl (fun q hq=>by
  simp only[tbl,List.mem_cons,List.not_mem_nil,or_false]at hq;rcases hq with rfl|rfl
  ·exact .inl rfl
  ·exact .inr rfl) (fun q hq=>by
  simp only[inL,List.mem_cons,List.not_mem_nil,or_false]at hq;rcases hq with rfl|rfl
  ·exact HX.out.1
  ·exact HX.out.2)
 clear hW he4;refine(show Calls _ _ _ _ _ from HWR.out).mono ?_;rintro _ w5 ⟨hw,hb5⟩;have HB5:Hid (Below w4.heap.size w4 w5):=hb5;have HS5:Hid (Stw bs bc bw bp c bm N w5):=(HS.out.below HB4.out).below hb5;have HBW5:Hid (Below w.heap.size w w5):=HB4.out.trans (hb5.mono HB4.out.size);have HV55:Hid (Ac w1.heap.size [.int .i64 1,.int .i64 (nx:Nat),.string tnm,.slice ac 2 cc,.slice ai li ci] w5):=HV54.out.below hb5;have HV25:Hid (Ac (w1.heap.size+1) [.int .i64 (r.id:Nat),.slice av 2 cv] w5):=HV24.out.below hb5;clear d0 d1 dd2 d3 d4 k0 k1 hb5;rcases hw with⟨hok,rfl⟩|⟨_,t,v,rfl⟩
 case inr=>
  go_wp2;go_ret;exact .inr ⟨trivial,t,v,c,rfl,rfl,rfl,HS5.out.mono (by omega),Ab HBW5.out _⟩
 have HRK:Hid (r.Ok/\r.id<nx):=HD.out.ok r HR.out;have HOK:Hid (Rw.Ok ⟨r.id,x,y⟩):=NM hok HX.out.1 HX.out.2 HRK.out.1.id;have hkl:Bp (inL x y)=Bp (Rw.l ⟨r.id,x,y⟩):=rfl;rw[hkl];obtain⟨It,hIt⟩:∃It,An (Bp (Rw.l ⟨r.id,x,y⟩))=It:=⟨_,rfl⟩;have HIT:Hid _:=hIt;rw[hIt];have hm:=HD.out.mems HR.out;have HE5:Hid (Cm w.heap.size (tbl nx ib) ac ai 2 cc li ci w5):=HE4.out.below HB5.out;have HTK:Hid _:=Ko HS5.out HE5.out ((HR1.out.below HBW.out).below HB5.out) HL.out HRK.out.1 HD.out.nd HD.out.m3 hm.1 hm.2.1 hm.2.2 HD.out.z3 (by omega);obtain⟨d0,d1,dd2,d3,d4⟩:=HV55.out.c5;have k0:=HV25.out.cell 0 (by simp);have k1:=HV25.out.cell 1 (by simp);simp only[List.getElem_cons_zero,List.getElem_cons_succ]at k0 k1;clear hok hkl hIt hm;go_wp2_with fail;refine(show Calls _ _ _ _ _ from HTK.out).mono ?_;rintro _ w6 ⟨rfl,hs6,ho6⟩;have hne:∀b,(b=bp\/b=bm)->b<w.heap.size:=fun b e=>by have:=HL.out;rcases e with e|e<;>omega
 have hs1:w.heap.size<=w1.heap.size:=HB1.out.size;have HS6:Hid _:=hs6;have HV56:Hid (Ac w1.heap.size [.int .i64 1,.int .i64 (nx:Nat),.string tnm,.slice ac 2 cc,.slice ai li ci] w6):=HV55.out.only ho6 (fun e=>by have:=hne _ e;omega);have HE6:Hid (Cm w.heap.size (tbl nx ib) ac ai 2 cc li ci w6):=HE5.out.upd HL.out ho6;have HR6:Hid (DY a cap bp bm ⟨r.id,x,y⟩ w6):=DY.upd (⟨BY.below HV2w.out HB5.out (Nat.le_refl _),HAD.out,hcap⟩:DY a cap bp bm ⟨r.id,x,y⟩ w5) ho6;have HO6:Hid (Aa (fun b=>b=bp\/b=bm) w w6):=(Ab HBW5.out _).trans ho6 (fun _ e=> .inl e);have HD6:Hid (StD (dW (d2 c r ib) r D) k (Hf r.id R) nx ib (DT D A2 (r.id:Nat) r.b.s)):=HD.out.take HR.out;clear d0 d1 dd2 d3 d4 k0 k1 hs6 ho6 hne HTK;obtain⟨d0,d1,dd2,d3,d4⟩:=HV56.out.c5;have hz:=HD6.out.zs (by omega);have hpt:=M8 HS6.out HE6.out HR6.out HL.out HOK.out HD6.out.nd HD6.out.m3 hz.1 hz.2 HD6.out.z3 (by omega);rw[HIT.out]at hpt;have HPT:Hid _:=hpt;clear hpt hz;go_wp2_with fail;refine(show Calls _ _ _ _ _ from HPT.out).mono ?_;have HNE:Hid (∀q∈Hf r.id R,q.id≠r.id):=fun q hq=>(Dq.1 hq).2;rintro _ w7 (⟨rfl,h0,h1,h2⟩|⟨rfl,h0,h1,h2⟩)
 ·have H7:Hid (Mb bs bc bw bp bm N c.tb c.bd (fun c'=>StD c' (k+2) (Fg ⟨r.id,x,y⟩ (Hf r.id R)) nx ib (CN (DT D A2 (r.id:Nat) r.b.s) A2 (r.id:Nat) y.s)) w (.returned .nilIface) .nilIface (fun u=>u) True w7):=
   .inl ⟨cW (c2 (dW (d2 c r ib) r D) ⟨r.id,x,y⟩ ib) ⟨r.id,x,y⟩ (DT D A2 (r.id:Nat) r.b.s),(HD6.out.put HOK.out HRK.out.2 HNE.out h0).more,(TR _ _ _ _).trans (TI _ _ _ _),(TS _ _ _ _).trans (TJ _ _ _ _),rfl,h1.mono (show N+2200+1000<=N+4000 by omega),HO6.out.trans h2 (fun _ e=> .inl e)⟩
  clear h0 h1 h2 HPT;go_wp2;go_ret;exact H7.out
 ·have H7:Hid (Mb bs bc bw bp bm N c.tb c.bd (fun c'=>StD c' (k+2) (Fg ⟨r.id,x,y⟩ (Hf r.id R)) nx ib (CN (DT D A2 (r.id:Nat) r.b.s) A2 (r.id:Nat) y.s)) w (.returned (.iface 101 (.int .i64 (addE (DT D A2 (r.id:Nat) r.b.s) A2 (r.id:Nat) y.s)))) .nilIface (fun u=>u) True w7):=
   .inr ⟨trivial,101,.int .i64 (addE (DT D A2 (r.id:Nat) r.b.s) A2 (r.id:Nat) y.s),cW (c2 (dW (d2 c r ib) r D) ⟨r.id,x,y⟩ ib) ⟨r.id,x,y⟩ (DT D A2 (r.id:Nat) r.b.s),(TR _ _ _ _).trans (TI _ _ _ _),(TS _ _ _ _).trans (TJ _ _ _ _),rfl,h1.mono (show N+2200+1000<=N+4000 by omega),HO6.out.trans h2 (fun _ e=> .inl e)⟩
  clear h0 h1 h2 HPT;go_wp2;go_ret;exact H7.out
set_option maxHeartbeats 1000000
theorem Pv (h:Stw bs bc bw bp c bm N w) (hd:StD c k R nx ib D) (hk:k<250) {row:Int} (hno:∀r∈R,row≠(r.id:Int)) (hr1: -9223372036854775808<=row) (hr2:row<=9223372036854775807) (v:Value):
  Calls Tryz.prog 9 #[.pointer (some ⟨bs,0,none⟩),.string tnm,.int .i64 row,v] w fun e w'=>e= .returned (.iface 101 (.int .i64 7))/\Below w.heap.size w w':=by
 have HF:Hid _:=OY h hd hk hno hr1 hr2;clear h hd hno;go_enter Tryz.func9,Tryz.ntmps9;go_wp2_with fail;refine(show Calls _ _ _ _ _ from HF.out).mono ?_;rintro _ w1 ⟨ac,ai,lc,cc,li,ci,rfl,hb1⟩;obtain⟨hbn,hv5,hv2⟩:=Ip w1;obtain⟨W,hW⟩:∃W,(w1.alloc (.cells #[.int .i64 0,.int .i64 0,.string ⟨#[]⟩,.slice none 0 0,.slice none 0 0] 92)).alloc (.cells #[.int .i64 0,.slice none 0 0] 57)=W:=⟨_,rfl⟩;rw[hW]at hbn hv5 hv2;have HV5:Hid _:=hv5;have HV2:Hid _:=hv2;have HBN:Hid _:=hbn;have HB1:Hid _:=hb1;clear hb1 HF hv5 hv2 hbn
 go_wp2_with (first
  |(refine A9 rfl 92 _ _ rfl w1.heap.size [.int .i64 0,.int .i64 0,.string ⟨#[]⟩,.slice none 0 0,.slice none 0 0] [.int .i64 1,.int .i64 (nx:Nat),.string tnm,.slice ac lc cc,.slice ai li ci] rfl rfl HV5.out rfl OV (Tj _ _ _ _ _ _ _ _ _) ?_;intro w3 hv3 ho3;have HO3:Hid (Aa (fun b=>b=w1.heap.size) W w3):=ho3;clear hv3 ho3)
  |(refine A9 rfl 57 _ _ rfl (w1.heap.size+1) [.int .i64 0,.slice none 0 0] [.int .i64 0,.slice none 0 0] rfl rfl (HV2.out.only HO3.out (fun e=>by omega)) rfl OW (Tk _ _ _ _) ?_;intro w4 hv4 ho4;have HO4:Hid (Aa (fun b=>b=w1.heap.size+1) w3 w4):=ho4;clear hv4 ho4))
 go_ret;have hbw:Below w1.heap.size w1 w4:=Aa.below (Aa.below HBN.out HO3.out HBN.out.size (fun i e=>by omega)) HO4.out (by have:=HBN.out.size;have:=HO3.out.size;omega) (fun i e=>by omega);exact⟨rfl,HB1.out.trans (hbw.mono HB1.out.size)⟩
end
theorem Mz {P:Program} {fn:Func} {p q r:Tmp} {t:TypeId} {v1 v2 v3:Value} (h:fn.results= #[.cell p t,.tmp q,.tmp r]) (tmps:Array Value) (w:World) (a:Addr) (hp:tmps.getD p undef= .pointer (some a)) (hq:tmps.getD q undef=v2) (hr:tmps.getD r undef=v3) (hl:(loadVar t a).run P w= .ok v1 w):
  (results fn tmps).run P w= .ok (.tuple #[v1,v2,v3]) w:=by
 have e0:tmps[p]?.getD undef= .pointer (some a):=by simpa [Array.getD_eq_getD_getElem?]using hp
 have e1:tmps[q]?.getD undef=v2:=by simpa [Array.getD_eq_getD_getElem?]using hq
 have e2:tmps[r]?.getD undef=v3:=by simpa [Array.getD_eq_getD_getElem?]using hr
 simp[results,h,e0,e1,e2,asAddr,hl]
theorem UP:(Tryz.prog.info? 57).map (fun i=>(i.zero,i.size,i.bytes))=some (some (.agg #[.int .i64 0,.slice none 0 0]),2,32):=by kernel_rfl
theorem Vb:Tryz.prog.elem 51=57:=by kernel_rfl
theorem Uv:(sizeOf 57).run Tryz.prog=fun w=> .ok 2 w:=by funext w;simp[Tryz.sizeOf57]
structure O5 where
 r:Rw
 v:Value
def Rp (x:O5):List Value:=[.int .i64 (x.r.id:Nat),x.v]
theorem Ro (x:O5):(Rp x).length=2:=rfl
structure AL (B:Nat) (v:Value) (X:List O5) (w:World):Prop where
 row:w.ownsRow B 57 2 v X.length (X.flatMap Rp)
 vs:∀x∈X,w.ownsRow B 24 3 x.v 2 (Bq x.r.l)
 ap:∀x∈X,Apt v x.v
section
variable {B:Nat} {v v':Value} {X:List O5} {x:O5} {w w1:World}
theorem AL.nil (B:Nat) (w:World):AL B (.slice none 0 0) [] w:=⟨World.ownsRow_nil _ _ _ _,fun _ hx=>(List.not_mem_nil hx).elim,fun _ hx=>(List.not_mem_nil hx).elim⟩
theorem AL.below (h:AL B v X w) (hb:Below w.heap.size w w1):AL B v X w1:=⟨Ag h.row hb,fun x hx=>Ag (h.vs x hx) hb,h.ap⟩
theorem AL.only {S:Nat->Prop} (h:AL B v X w) (ho:Aa S w w1) (hS:∀b,S b->b<B):AL B v X w1:=⟨Aw h.row ho hS,fun x hx=>Aw (h.vs x hx) ho hS,h.ap⟩
theorem AL.base {B2:Nat} (h:AL B v X w) (hB:B2<=B):AL B2 v X w:=⟨AE h.row hB,fun x hx=>AE (h.vs x hx) hB,h.ap⟩
theorem AL.at (h:AL B v X w) {i:Nat} (hi:i<X.length):∃g cap a cv,v= .slice (some ⟨g,0,none⟩) X.length cap/\B<=g/\X[i].v= .slice a 2 cv/\w.cell? ⟨g,2 * i,none⟩=some (.int .i64 (X[i].r.id:Nat))/\w.cell? ⟨g,2 * i+1,none⟩=some (.slice a 2 cv)/\w.ownsRow B 24 3 (.slice a 2 cv) 2 (Bq X[i].r.l)/\
  ∀wx,(Instr.indexAt 51 (.slice (some ⟨g,0,none⟩) X.length cap) (.int .i64 (i:Nat))).run Tryz.prog wx= .ok (.pointer (some ⟨g,2 * i,none⟩)) wx:=by
 obtain⟨g,cap,rfl,h1,h2⟩:=World.ownsRow.form h.row (by omega)
 have hat:∀j,j<2->w.cell? ⟨g,2 * i+j,none⟩=(Rp X[i])[j]? :=fun j hj=>by
  rw[World.ownsRow.cellAt h.row (2 * i+j) (by omega),Eh Ro X i j hi hj]
 have hv:=h.vs X[i] (List.getElem_mem hi);obtain⟨a,cv,e⟩:=Aj hv;refine⟨g,cap,a,cv,rfl,h1,e,hat 0 (by omega),?_,by rw[<-e];exact hv,fun wx=>Cd Tryz.underlying51 Vb Uv g X.length cap i hi wx⟩;rw[hat 1 (by omega),<-e];rfl
theorem AL.lt (h:AL B v X w) {k:Nat} (hk:v.ownBlock=some k):B<=k/\k<w.heap.size:=World.ownsRow.lt h.row k hk
theorem AL.more (h:AL B v X w) (hv:w.ownsRow B 24 3 x.v 2 (Bq x.r.l)) (hap:Apt v x.v) (hG:w.grownBy w1 v.ownBlock) (hO:w1.ownsRow B 57 2 v' (X.length+1) (X.flatMap Rp++Rp x)) (hL:I5 v v' w):AL B v' (X++[x]) w1:=by
 have hkp:∀u xs,w.ownsRow B 24 3 u 2 xs->Apt v u->w1.ownsRow B 24 3 u 2 xs:=fun u xs hu ha=>World.ownsRow.kept hu hG (by
  cases e:u.ownBlock with
  |none=>exact .inl rfl
  |some k=>exact .inr (fun e2=>ha k e2.symm e))
 have hap2:∀u xs,w.ownsRow B 24 3 u 2 xs->Apt v u->Apt v' u:=fun u xs hu ha k hk e=>by
  rcases hL k hk with e2|e2
  ·exact ha k e2 e
  ·have:=(World.ownsRow.lt hu k e).2;omega
 refine⟨?_,fun y hy=> ?_,fun y hy=> ?_⟩
 ·rw[List.length_append,List.flatMap_append,List.flatMap_singleton];exact hO
 ·rcases List.mem_append.1 hy with hy|hy
  ·exact hkp _ _ (h.vs y hy) (h.ap y hy)
  ·obtain rfl:=List.mem_singleton.1 hy
   exact hkp _ _ hv hap
 ·rcases List.mem_append.1 hy with hy|hy
  ·exact hap2 _ _ (h.vs y hy) (h.ap y hy)
  ·obtain rfl:=List.mem_singleton.1 hy
   exact hap2 _ _ hv hap
end
section
variable {bs bc bw bp bm N k nx:Nat} {c c':Sts} {R:List Rw} {ib:Bool} {D:List Nd} {w:World}
theorem Qp (h:Stw bs bc bw bp c bm N w) (hd:StD c' k R nx ib D) (e0:c'.M 0=c.M 0) (hk:k<250):
  Calls Tryz.prog 24 #[.pointer (some ⟨bc,0,none⟩),.string tnm] w fun e w'=>∃ac ai lc cc li ci,e= .returned (.tuple #[.agg #[.int .i64 1,.int .i64 (nx:Nat),.string tnm,.slice ac lc cc,.slice ai li ci],.nilIface])/\Cm w.heap.size (tbl nx ib) ac ai lc cc li ci w'/\Below w.heap.size w w':=by
 obtain⟨m,hm⟩:=h.g.m;have hn:=hd.nx;have hc:=h.cat (GN (nx:=nx) (by omega) ib) (fun x=>by rw[<-e0];exact hd.m0 x);refine(GB hc hm (by simp) (List.mem_singleton.2 rfl)).mono ?_;rintro e w' ⟨vc,vi,rfl,h1,h2,_,h4⟩;obtain⟨ac,cc,rfl⟩:=Aj h1;obtain⟨ai,ci,rfl⟩:=Aj h2;exact⟨ac,ai,_,cc,_,ci,rfl,⟨h1,h2,rfl,rfl⟩,h4⟩
theorem GI (h:Stw bs bc bw bp c bm N w) (hd:StD c' k R nx ib D) (e0:c'.M 0=c.M 0) (e1:c'.M 1=c.M 1) (hk:k<200):
  Calls Tryz.prog 33 #[.pointer (some ⟨bs,0,none⟩),.string tnm] w fun e w'=>∃ac ai lc cc li ci v X,e= .returned (.tuple #[.agg #[.int .i64 1,.int .i64 (nx:Nat),.string tnm,.slice ac lc cc,.slice ai li ci],v,.nilIface])/\Cm w.heap.size (tbl nx ib) ac ai lc cc li ci w'/\AL w.heap.size v X w'/\X.map (·.r)=R/\Below w.heap.size w w':=by
 have HR4:Hid (Ac w.heap.size [.int .i64 0,.int .i64 0,.string ⟨#[]⟩,.slice none 0 0,.slice none 0 0] (w.alloc (.cells #[.int .i64 0,.int .i64 0,.string ⟨#[]⟩,.slice none 0 0,.slice none 0 0] 92))):=Ac.new w #[.int .i64 0,.int .i64 0,.string ⟨#[]⟩,.slice none 0 0,.slice none 0 0] 92 (by simp);obtain⟨i0,hi0,hz0,hz1,hz2⟩:=CC UP;obtain⟨W0,hW0⟩:∃W0,w.alloc (.cells #[.int .i64 0,.int .i64 0,.string ⟨#[]⟩,.slice none 0 0,.slice none 0 0] 92)=W0:=⟨_,rfl⟩;rw[hW0]at HR4;have hb0:Below w.heap.size w W0:=by rw[<-hW0];exact(Below.refl _ _).alloc (Nat.le_refl _) _
 have HG:Hid _:=Qp (h.below hb0) hd e0 (by omega);have HS:Hid (Stw bs bc bw bp c bm N W0):=h.below hb0;have HB0:Hid (Below w.heap.size w W0):=hb0;have HD:Hid _:=hd;have q0:=HS.out.v.cell 0 (by simp);simp only[List.getElem_cons_zero]at q0;clear h hd hb0;go_enter Tryz.func33,Tryz.ntmps33;go_wp2_with fail;refine(show Calls _ _ _ _ _ from HG.out).mono ?_;rintro _ w1 ⟨ac,ai,lc,cc,li,ci,rfl,he1,hb1⟩;have hv7:=Ac.new w1 #[.int .i64 1,.int .i64 (nx:Nat),.string tnm,.slice ac lc cc,.slice ai li ci] 92 (by simp);have hb2:Below w1.heap.size w1 (w1.alloc (.cells #[.int .i64 1,.int .i64 (nx:Nat),.string tnm,.slice ac lc cc,.slice ai li ci] 92)):=(Below.refl _ _).alloc (Nat.le_refl _) _;obtain⟨W,hW⟩:∃W,w1.alloc (.cells #[.int .i64 1,.int .i64 (nx:Nat),.string tnm,.slice ac lc cc,.slice ai li ci] 92)=W:=⟨_,rfl⟩;rw[hW]at hv7 hb2;have hb02:Below W0.heap.size W0 W:=hb1.trans (hb2.mono hb1.size);have HE:Hid (Cm W0.heap.size (tbl nx ib) ac ai lc cc li ci W):=he1.below hb2;have HV7:Hid (Ac w1.heap.size [.int .i64 1,.int .i64 (nx:Nat),.string tnm,.slice ac lc cc,.slice ai li ci] W):=hv7;have HR4W:Hid (Ac w.heap.size [.int .i64 0,.int .i64 0,.string ⟨#[]⟩,.slice none 0 0,.slice none 0 0] W):=HR4.out.below hb02;have HBW:Hid (Below w.heap.size w W):=HB0.out.trans (hb02.mono HB0.out.size);have HSW:Hid (Stw bs bc bw bp c bm N W):=HS.out.below hb02;have HLE:Hid (w.heap.size<W0.heap.size/\W0.heap.size<=w1.heap.size):=⟨by have:=HR4.out.lt;omega,hb1.size⟩;have hlc:lc=2:=he1.ll.1.symm;subst hlc
 have HP4:Hid (∀wx,Stw bs bc bw bp c bm N wx->Calls Tryz.prog 26 #[.pointer (some ⟨c.tb 1,0,none⟩),.string (tkB 1)] wx fun e w'=>∃a9 cp,e= .returned (.tuple #[.slice a9 R.length cp,.nilIface])/\BU wx.heap.size (.slice a9 R.length cp) (R.map (rkP 1)) w'/\Below wx.heap.size wx w'):=fun wx hh=>by
  refine(UA hh.t (r:=1) (by omega) (tkB 1)).mono ?_;rintro e w' ⟨a9,n,cp,L,rfl,hn,hp,hs,hm,hb⟩;have hL:=HD.out.rows hs (fun x=>by rw[e1];exact hm x);subst hL;rw[List.length_map]at hn;subst hn;exact⟨a9,cp,rfl,hp,hb⟩
 have HTK:Hid (∀wx,Calls Tryz.prog 27 #[.int .i64 1] wx fun e w'=>e= .returned (.string (tkB 1))/\Below wx.heap.size wx w'):=fun wx=>Dz 1 wx;have D0:Hid (W.drew.cell? ⟨bs,3,none⟩=some (.pointer (some ⟨c.tb 1,0,none⟩))/\W.drew.cell? ⟨w1.heap.size,0,none⟩=some (.int .i64 1)):=⟨HSW.out.v.cell 3 (by simp),HV7.out.cell 0 (by simp)⟩;have q5:=D0.out.1;have q6:=D0.out.2;clear he1 hb1 hb2 hv7 hb02 q0 HG HR4 HS HB0;go_wp2_with fail
 go_region_held3 (fun wx=>wx.cell? ⟨bs,3,none⟩=some (.pointer (some ⟨c.tb 1,0,none⟩))/\wx.cell? ⟨w1.heap.size,0,none⟩=some (.int .i64 1)) (first|exact D0.out|exact D1.out|exact D2.out) (first|(go_at_call 27;refine(show Calls _ _ _ _ _ from HTK.out _).mono ?_;rintro _ w4 ⟨rfl,hb4⟩;have HB4:Hid (Below W.heap.size W w4):=(Below.refl _ W).drew.trans hb4;have D1:Hid (w4.cell? ⟨bs,3,none⟩=some (.pointer (some ⟨c.tb 1,0,none⟩))/\w4.cell? ⟨w1.heap.size,0,none⟩=some (.int .i64 1)):=⟨Ae HB4.out D0.out.1,Ae HB4.out D0.out.2⟩;clear hb4)|(go_at_call 26;refine(show Calls _ _ _ _ _ from HP4.out _ (HSW.out.below HB4.out)).mono ?_;rintro _ w5 ⟨a9,cp,rfl,hp5,hb5⟩;have HB5:Hid (Below W.heap.size W w5):=HB4.out.trans (hb5.mono HB4.out.size);have HPR:Hid (BU w4.heap.size (.slice a9 R.length cp) (R.map (rkP 1)) w5):=hp5;have D2:Hid (w5.cell? ⟨bs,3,none⟩=some (.pointer (some ⟨c.tb 1,0,none⟩))/\w5.cell? ⟨w1.heap.size,0,none⟩=some (.int .i64 1)):=⟨Ae hb5 D1.out.1,Ae hb5 D1.out.2⟩;clear hb5 hp5))
 obtain⟨n,hn⟩:∃n,R.length=n:=⟨_,rfl⟩;rw[hn]at HPR ⊢;have HN:Hid (R.length=n):=hn;have HE5:Hid (Cm W0.heap.size (tbl nx ib) ac ai 2 cc li ci w5):=HE.out.below HB5.out;have HV75:Hid (Ac w1.heap.size [.int .i64 1,.int .i64 (nx:Nat),.string tnm,.slice ac 2 cc,.slice ai li ci] w5):=HV7.out.below HB5.out;have HR45:Hid (Ac w.heap.size [.int .i64 0,.int .i64 0,.string ⟨#[]⟩,.slice none 0 0,.slice none 0 0] w5):=HR4W.out.below HB5.out;have HBW5:Hid (Below w.heap.size w w5):=HBW.out.trans (HB5.out.mono HBW.out.size);have HRL:Hid (R.length<250):=by have:=HD.out.len;have:=HD.out.nx;show _<_;omega
 clear D0 D1 D2 q5 q6 hn HE HV7 HR4W HBW hW hW0;go_wp2_with fail;go_loopw [10,47] (fun l i wr=>∃j:Nat,j<=n/\i= .int .i64 (j:Nat)/\(∃X,Hid (AL w5.heap.size l X wr)/\Hid (X.map (·.r)=R.take j))/\Hid (Below w5.heap.size w5 wr)) (fun _ i _=>n+1-(intOf i).toNat)
 case atStart=>exact⟨0,Nat.zero_le _,rfl,⟨[],AL.nil _ _,rfl⟩,Below.refl _ _⟩
 case round=>
  obtain⟨j,hj,rfl,⟨X,HX,HXR⟩,HB⟩:=hrel
  by_cases hlt:j<n
  ·have h1:(j:Int)<(n:Int):=by omega
   have hnl:n<250:=by have:=HRL.out;have:=HN.out;omega
   have hjl:j<R.length:=by rw[HN.out];exact hlt
   obtain⟨g,hg,k0,k1,hix⟩:=BU.at (Ag HPR.out HB.out) (i:=j) (by rw[List.length_map];exact hjl);simp only[List.getElem_map]at k0 k1;have HRT:Hid (R.take (j+1)=R.take j++[R[j]]):=List.take_succ_eq_append_getElem hjl;have hok:=(HD.out.ok _ (List.getElem_mem hjl)).1
   have HXL:Hid (X.length=j):=by
    have:=congrArg List.length HXR.out;rw[List.length_map,List.length_take]at this;show _=_;omega
   obtain⟨r,hr⟩:∃r,R[j]=r:=⟨_,rfl⟩;rw[hr]at k0 k1 HRT hok;have HOK:Hid r.Ok:=hok;have HRR:Hid (∀wx,Calls Tryz.prog 85 #[.string (rkP 1 r).k] wx fun e w'=>e= .returned (.tuple #[.int .i64 (r.id:Nat),.nilIface])/\w'=wx):=fun wx=>M6 1 r.id (by have:=HOK.out.id;omega) wx
   have HRD:Hid (∀wx,Calls Tryz.prog 78 #[.slice ac 2 cc,.string (rkP 1 r).i] wx fun e w'=>∃a cap,e= .returned (.tuple #[.slice a 2 cap,.nilIface])/\w'.ownsRow wx.heap.size 24 3 (.slice a 2 cap) 2 (Bq r.l)/\Below wx.heap.size wx w'):=fun wx=>Kz (ac:=ac) (cc:=cc) (n:=2) r.l wx rfl (Nat.le_refl _) (fun x hx=>by
     simp only[Rw.l,List.mem_cons,List.not_mem_nil,or_false]at hx;rcases hx with rfl|rfl
     ·exact HOK.out.ra
     ·exact HOK.out.rb) (fun x hx=>by
     simp only[Rw.l,List.mem_cons,List.not_mem_nil,or_false]at hx;rcases hx with rfl|rfl
     ·exact HOK.out.fa
     ·exact HOK.out.fb)
   obtain⟨P,hP⟩:∃P,rkP 1 r=P:=⟨_,rfl⟩;rw[hP]at k0 k1 HRR HRD;have hvp:=Ac.new wr #[.string P.k,.string P.i] 126 (by simp);have hbp:Below wr.heap.size wr (wr.alloc (.cells #[.string P.k,.string P.i] 126)):=(Below.refl _ _).alloc (Nat.le_refl _) _;obtain⟨W6,hW6⟩:∃W6,wr.alloc (.cells #[.string P.k,.string P.i] 126)=W6:=⟨_,rfl⟩;rw[hW6]at hvp hbp;have HVP:Hid (Ac wr.heap.size [.string P.k,.string P.i] W6):=hvp;have HB6:Hid (Below w5.heap.size w5 W6):=HB.out.trans (hbp.mono HB.out.size);have HX6:Hid (AL w5.heap.size u10 X W6):=HX.out.below hbp;have p0:=HVP.out.cell 0 (by simp);have p1:=HVP.out.cell 1 (by simp);simp only[List.getElem_cons_zero,List.getElem_cons_succ]at p0 p1;clear hr hok hP hvp hbp;go_wp2_with fail;refine(show Calls _ _ _ _ _ from HRR.out _).mono ?_;rintro _ w6 ⟨rfl,rfl⟩;have HV76:Hid (Ac w1.heap.size [.int .i64 1,.int .i64 (nx:Nat),.string tnm,.slice ac 2 cc,.slice ai li ci] w6):=HV75.out.below HB6.out;obtain⟨d0,d1,dd2,d3,d4⟩:=HV76.out.c5;go_wp2_with fail;refine(show Calls _ _ _ _ _ from HRD.out _).mono ?_;rintro _ w7 ⟨av,cv,rfl,ho7,hb7⟩;have HB7:Hid (Below w5.heap.size w5 w7):=HB6.out.trans (hb7.mono HB6.out.size);have hbA:Below w7.heap.size w7 (w7.alloc (.cells #[.int .i64 (r.id:Nat),.slice av 2 cv] 57)):=(Below.refl _ _).alloc (Nat.le_refl _) _;have HXA:Hid (AL w5.heap.size u10 X (w7.alloc (.cells #[.int .i64 (r.id:Nat),.slice av 2 cv] 57))):=(HX6.out.below hb7).below hbA;have HOA:Hid ((w7.alloc (.cells #[.int .i64 (r.id:Nat),.slice av 2 cv] 57)).ownsRow w5.heap.size 24 3 (.slice av 2 cv) 2 (Bq r.l)):=AE (Ag ho7 hbA) HB6.out.size
   have HAP:Hid (Apt u10 (.slice av 2 cv)):=fun k hk e=>by
    have h1:=(World.ownsRow.lt ho7 k e).1;have h2:=(HX6.out.lt hk).2;omega
   have HBA:Hid (Below w5.heap.size w5 (w7.alloc (.cells #[.int .i64 (r.id:Nat),.slice av 2 cv] 57))):=HB7.out.trans (hbA.mono HB7.out.size);clear ho7 hb7 hbA k0 k1 p0 p1 d0 d1 dd2 d3 d4 hW6
   go_wp2_with (at_builtin;refine wpList_append_lies _ rfl _ _ 51 rfl w5.heap.size 57 i0 (.agg #[.int .i64 0,.slice none 0 0]) 2 32 Tryz.underlying51 hi0 hz0 hz1 hz2 rfl (by decide) _ _ _ rfl HXA.out.row ⟨w7.heap.size,0,none⟩ 1 1 [.int .i64 (r.id:Nat),.slice av 2 cv] rfl rfl (G3 w7 _ _ 57) (by intro u hu;simp at hu;rcases hu with rfl|rfl<;>rfl) (by decide) (by rw[HXL.out];have:=HRL.out;simp only[maxLen];omega) (by rw[HXL.out];have:=HRL.out;omega) (by have:=HB7.out.size;rw[World.size_alloc];omega) _ rfl ?_;intro g5 cap5 w8 hO8 hG8 hat8 hlt8;have HO8:Hid _:=hO8;have HG8:Hid _:=hG8;have HAT8:Hid _:=hat8;clear hO8 hG8 hat8 hlt8)
   refine⟨⟨j+1,by omega,by go_num,⟨X++[⟨r,.slice av 2 cv⟩],?_,?_⟩,?_⟩,by simp[intOf];omega⟩
   ·exact HXA.out.more HOA.out HAP.out HG8.out HO8.out (fun k hk=>by
     cases hk
     exact HAT8.out.imp id (fun e=>by rw[e];exact Nat.le_refl _))
   ·show _=_
    rw[List.map_append,HXR.out,HRT.out];rfl
   ·exact HBA.out.grown HG8.out (by have:=HB7.out.size;rw[World.size_alloc];omega) (fun k e=>(HX6.out.lt e).1)
  ·have h1:¬(j:Int)<(n:Int):=by omega
   obtain rfl:n=j:=by omega
   have HB5w:Hid (Below w.heap.size w wr):=HBW5.out.trans (HB.out.mono HBW5.out.size);have HV7w:Hid (Ac w1.heap.size [.int .i64 1,.int .i64 (nx:Nat),.string tnm,.slice ac 2 cc,.slice ai li ci] wr):=HV75.out.below HB.out;have HR4w:Hid (Ac w.heap.size [.int .i64 0,.int .i64 0,.string ⟨#[]⟩,.slice none 0 0,.slice none 0 0] wr):=HR45.out.below HB.out;have HEw:Hid (Cm W0.heap.size (tbl nx ib) ac ai 2 cc li ci wr):=HE5.out.below HB.out;obtain⟨p0,p1,p2,p3,p4⟩:=HV7w.out.c5;have f0:=HR4w.out.free 0;have f1:=HR4w.out.free 1;have f2:=HR4w.out.free 2;have f3:=HR4w.out.free 3;have f4:=HR4w.out.free 4;obtain⟨d0,d1,dd2,d3,d4⟩:=HR4w.out.c5;go_wp2;have hv4:=((((HR4w.out.set 0 (.int .i64 1)).set 1 (.int .i64 (nx:Nat))).set 2 (.string tnm)).set 3 (.slice ac 2 cc)).set 4 (.slice ai li ci)
   have ho:Aa (fun b=>b=w.heap.size) wr (((((wr.setCell ⟨w.heap.size,0,none⟩ (.int .i64 1)).setCell ⟨w.heap.size,1,none⟩ (.int .i64 (nx:Nat))).setCell ⟨w.heap.size,2,none⟩ (.string tnm)).setCell ⟨w.heap.size,3,none⟩ (.slice ac 2 cc)).setCell ⟨w.heap.size,4,none⟩ (.slice ai li ci)):=
    ((((Aa.set _ _ _ _).trans (Aa.set _ _ _ _) (fun _ e=> .inl e)).trans (Aa.set _ _ _ _) (fun _ e=> .inl e)).trans (Aa.set _ _ _ _) (fun _ e=> .inl e)).trans (Aa.set _ _ _ _) (fun _ e=> .inl e)
   have he:=HEw.out.only ho (fun b e=>by have:=HLE.out;rw[e];omega);refine bodyPost_ret (v:= .tuple #[.agg #[.int .i64 1,.int .i64 (nx:Nat),.string tnm,.slice ac 2 cc,.slice ai li ci],u10,.nilIface]) (Mz Tryz.results33 _ _ _ rfl rfl rfl (G6 hv4)) rfl ⟨ac,ai,2,cc,li,ci,u10,rfl,⟨AE he.cr (by have:=HLE.out;omega),AE he.nr (by have:=HLE.out;omega),he.ll⟩,X,(HX.out.only ho (fun b e=>by have:=HR45.out.lt;rw[e];exact this)).base (by have:=HBW5.out.size;exact this),?_,Aa.below HB5w.out ho HB5w.out.size (fun i e=>by rw[e];exact Nat.le_refl _)⟩;rw[HXR.out,List.take_of_length_le (by have:=HN.out;omega)]
end
def bnm:ByteArray:=⟨#[98]⟩
def ixM (c:Sts) (R:List Rw) (j:Nat):Pr->Prop:=fun x=>c.M 2 x\/∃r∈R.take j,x=ikP 1 1 r
def cX (c:Sts) (nx:Nat):Sts:=c.put 0 (·∈[tbl nx true].flatMap Tb.prs) 300
def cJ (c:Sts) (R:List Rw) (nx j:Nat):Sts:=(cX c nx).put 2 (ixM c R j) (c.Z 2+60 * j)
theorem Vn:(⟨#[97]⟩:ByteArray)≠bnm:=fun e=>by
 have h2:(⟨#[97]⟩:ByteArray)=⟨#[98]⟩:=e;injection h2 with h3;revert h3;decide
section
variable {bs bc bw bp bm N k nx:Nat} {c:Sts} {R:List Rw} {D:List Nd} {w:World}
theorem RU (hd:StD c k R nx false D) {j:Nat} (hj:j<R.length) (x:Pr):Dn (ixM c R j) (ikP 1 1 R[j]) x↔ixM c R (j+1) x:=by
 have ht:R.take (j+1)=R.take j++[R[j]]:=List.take_succ_eq_append_getElem hj;have hp:=hd.ids.take (i:=j+1);rw[ht,List.pairwise_append]at hp;have hid:=(hd.ok _ (List.getElem_mem hj)).1.id;unfold Dn ixM;rw[ht];constructor
 ·rintro(rfl|⟨h1|⟨q,hq,rfl⟩,_⟩)
  ·exact .inr ⟨R[j],List.mem_append.2 (.inr (List.mem_singleton.2 rfl)),rfl⟩
  ·exact .inl h1
  ·exact .inr ⟨q,List.mem_append.2 (.inl hq),rfl⟩
 ·rintro(h1|⟨q,hq,rfl⟩)
  ·refine .inr ⟨.inl h1,fun e=> ?_⟩
   obtain⟨q,hq,e2|⟨e2,_⟩⟩:=(hd.m2 x).1 h1
   ·rw[e2]at e
    have:=(F3 (by omega) (by omega) (by have:=(hd.ok q hq).1.id;omega) (by omega) e).1;omega
   ·cases e2
  ·rcases List.mem_append.1 hq with hq|hq
   ·refine .inr ⟨.inr ⟨q,hq,rfl⟩,fun e=> ?_⟩
    have h1:=hp.2.2 q hq _ (List.mem_singleton.2 rfl);have h2:=(F3 (by omega) (by omega) (by have:=(hd.ok q (List.mem_of_mem_take hq)).1.id;omega) (by omega) e).2;omega
   ·obtain rfl:=List.mem_singleton.1 hq
    exact .inl rfl
theorem Pe (hd:StD c k R nx false D) (hk:k<100):StD (cJ c R nx R.length) k R nx true D:=by
 have hl:=hd.len;have hn:=hd.nx;refine⟨fun x=>Iff.rfl,hd.m1,fun x=> ?_,hd.m3,hd.z1,?_,hd.z3,hd.ok,hd.ids,hd.nx,hd.nd,hd.ds⟩
 ·show ixM c R R.length x↔_
  unfold ixM;rw[hd.m2 x,List.take_length];constructor
  ·rintro(⟨q,hq,e|⟨e,_⟩⟩|⟨q,hq,e⟩)
   ·exact⟨q,hq,.inl e⟩
   ·cases e
   ·exact⟨q,hq,.inr ⟨rfl,e⟩⟩
  ·rintro⟨q,hq,e|⟨_,e⟩⟩
   ·exact .inl ⟨q,hq,.inl e⟩
   ·exact .inr ⟨q,hq,e⟩
 ·show c.Z 2+60 * R.length<=120 * k+6000
  have:=hd.z2;simp only[Bool.false_eq_true,if_false]at this;have:R.length<=100:=by omega
  omega
theorem MT {ib:Bool} (h:Stw bs bc bw bp c bm N w) (hd:StD c k R nx ib D) (hk:k<100) (hN:N+9000<1000000):
  Calls Tryz.prog 32 #[.pointer (some ⟨bc,0,none⟩),.string tnm,.string bnm] w fun e w'=>(ib=true/\e= .returned (.iface 101 (.int .i64 9))/\Below w.heap.size w w')\/(ib=false/\e= .returned .nilIface/\Stw bs bc bw bp (cX c nx) bm (N+40) w'/\Aa (fun b=>b=bp\/b=bm) w w'):=by
 obtain⟨m,hm⟩:=h.g.m;have hn:=hd.nx;have hc:=h.cat (GN (nx:=nx) (by omega) ib) hd.m0
 refine(Jx (t:=tbl nx ib) (i:=1) (by show 1<2;decide) (cn:=bnm) rfl (fun j hj=>by
  obtain rfl:j=0:=by omega
  exact Vn) (Iy nx ib 1 (by show 1<2;decide)) hc hm (by omega)).mono ?_
 rintro e w' (⟨e1,rfl,hb⟩|⟨e1,rfl,hc',ho⟩)
 ·have e2:ib=true:=e1
  exact .inl ⟨e2,rfl,hb⟩
 ·have e2:ib=false:=e1
  subst e2;exact .inr ⟨rfl,rfl,h.ofCat hc' ho,ho⟩
theorem Sx {ac ai:Option Addr} {cc li ci:Nat} {ib:Bool} {B:Nat} (w:World) (h:Cm B (tbl nx ib) ac ai 2 cc li ci w):
  Calls Tryz.prog 35 #[.agg #[.int .i64 1,.int .i64 (nx:Nat),.string tnm,.slice ac 2 cc,.slice ai li ci],.string bnm] w fun e w'=>e= .returned (.int .i64 1)/\Below w.heap.size w w':=by
 refine(Gc bnm w h.cr).mono ?_;rintro e w' ⟨⟨i,hi,h1,h2,rfl⟩|⟨hno,_⟩,hb⟩
 ·have hi2:i<2:=hi
  have:i=1:=by
   rcases(show i=0\/i=1 by omega)with rfl|rfl
   ·exact absurd (Cu.1 h1) Vn
   ·rfl
  subst this;exact⟨rfl,hb⟩
 ·have:=hno (In ib) (by simp[tbl])
  rw[Cu.2 (show(In ib).nm=bnm from rfl)]at this
  cases this
end
end
end Go.Proofs.YtihnldkgeelehaaGreatDoor
