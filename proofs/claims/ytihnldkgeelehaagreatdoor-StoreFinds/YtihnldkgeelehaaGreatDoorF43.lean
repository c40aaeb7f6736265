/- StoreFinds: part 43. -/
import Derived.Test.YtihnldkgeelehaaGreatDoorF42
import Derived.Test.YtihnldkgeelehaaGreatDoorRows
import Derived.ProofKit
import Derived.OpenShut
import Derived.Deep.DeepHandedRow
import Derived.Lib.LaidU8
import Derived.Test.YtihnldkgeelehaaGreatDoorCards
import Derived.Test.YtihnldkgeelehaaGreatDoorTie
import Derived.Deep.Strs
import Derived.Deep.Slices
import Derived.Carry
import Derived.Lib.SmallJoins
import Derived.LaidHandle
import Derived.Stop.Joined
import Derived.Shelf.Vars
import Derived.SliceStrings
import Derived.ChangeSlices
set_option maxRecDepth 100000
set_option maxHeartbeats 4000000
namespace Go.Proofs.YtihnldkgeelehaaGreatDoor
section
open Go.RowKit Go.Maps
theorem Me (w:World) (Z:Array Value) (t n:Nat) (hn:n<=Z.size):(w.alloc (.cells Z t)).there w.heap.size 0 n:=fun j hj=>by
 have hw:(w.alloc (.cells Z t)).heap[w.heap.size]? =some (.cells Z t):=heap_alloc_new w _;refine⟨?_,by simp only[World.frozen?,hw];simp⟩;rw[Nat.zero_add,cell_of_row _ _ _ _ _ _ hw];simp;omega
theorem Uw:(Tryz.prog.info? 40).map (·.size)=some 2018:=Rh
theorem SL:Tryz.zeroCells40.size=2018:=O6
theorem Mkd.one {c:Sts} {M:List Value} {mk N:Nat} {w:World} (h:Mkd c M mk N w):M.toArray.all (·.oneCell')=true:=by
 obtain⟨q,N1,V,T,_,hM,_⟩:=h;exact all_oneCell_toArray (fun v hv=>by rw[hM]at hv;exact KP _ _ _ _ _ v hv)
structure Chg where
 q:Int
 r:Int
 a:Vl
 b:Vl
structure Chg.Ok (x:Chg):Prop where
 r1: -9223372036854775808<=x.r
 r2:x.r<=9223372036854775807
 fa:CQ x.a
 fb:CQ x.b
 sa:x.a.s.size<=maxLen
 sb:x.b.s.size<=maxLen
def chC (x:Chg):List Value:=[.int .i64 x.q,.int .i64 x.r,.int .i64 x.a.k,.int .i64 x.a.n,.string x.a.s,.int .i64 x.b.k,.int .i64 x.b.n,.string x.b.s]
def ChA (w:World) (a:Option Addr) (n:Nat) (ch:Nat->Chg):Prop:=∀i,i<n->(ch i).Ok/\∃b o,a=some ⟨b,o,none⟩/\b<w.heap.size/\∀j,j<8->w.cell? ⟨b,o+i * 8+j,none⟩=(chC (ch i))[j]?
theorem ChA.below {w w':World} {a:Option Addr} {n:Nat} {ch:Nat->Chg} (h:ChA w a n ch) (hb:Below w.heap.size w w'):ChA w' a n ch:=fun i hi=>by
 obtain⟨h0,b,o,h1,h2,h3⟩:=h i hi;refine⟨h0,b,o,h1,Nat.lt_of_lt_of_le h2 hb.size,fun j hj=> ?_⟩;rw[<-h3 j hj];exact hb.cell (p:=⟨b,o+i * 8+j,none⟩) h2
theorem Vc:Tryz.prog.elem 22=31:=by kernel_rfl
theorem Ux:(sizeOf 31).run Tryz.prog=fun w=> .ok 8 w:=by funext w;simp[Tryz.sizeOf31]
theorem MS (g off n cap i:Nat) (hi:i<n) (wx:World):(Instr.indexAt 22 (.slice (some ⟨g,off,none⟩) n cap) (.int .i64 (i:Nat))).run Tryz.prog wx= .ok (.pointer (some ⟨g,off+i * 8,none⟩)) wx:=by
 rw[run_indexAt_slice (h:=Tryz.underlying22),if_pos ⟨by omega,by omega⟩];rw[Vc,Ux];simp[Result.andThen,A6]
theorem Q7 {r:Rw} {l:List Rw} (h:(r::l).Pairwise (fun a b=>a.id<b.id)):Hf r.id (r::l)=l:=by
 rw[List.pairwise_cons]at h;unfold Hf;rw[List.filter_cons,if_neg (by simp)];exact List.filter_eq_self.2 fun x hx=>by have:=h.1 x hx;simp;omega
structure St8 (bs bc bw bp:Nat) (tb:Nat->Nat) (bd j:Nat) (w0 w:World):Prop where
 ex:∃c bm R nx ib D,Stw bs bc bw bp c bm (400+4000 * j) w/\StD c (2 * j) R nx ib D/\nx<=j+1/\c.tb=tb/\c.bd=bd/\w0.heap.size<=bm
 b:Below w0.heap.size w0 w
structure Hk (bs bc bw bp:Nat) (tb:Nat->Nat) (bd bm j:Nat) (err:Value) (w w':World):Prop where
 ok:err= .nilIface->∃c R nx ib D,Stw bs bc bw bp c bm (400+4000 * (j+1)) w'/\StD c (2 * (j+1)) R nx ib D/\nx<=j+2/\c.tb=tb/\c.bd=bd
 er:∃c',c'.tb=tb/\c'.bd=bd/\Stw bs bc bw bp c' bm (400+4000 * (j+1)) w'
 o:Aa (fun b=>b=bp\/b=bm) w w'
 sh:err= .nilIface\/∃t v,err= .iface t v
section
variable {bs bc bw bp bm j nx bd cap:Nat} {c:Sts} {R:List Rw} {ib:Bool} {D:List Nd} {w w':World} {a:Option Addr} {tb:Nat->Nat} {x:Chg}
theorem Hk.same (h:Stw bs bc bw bp c bm (400+4000 * j) w) (hd:StD c (2 * j) R nx ib D) (hn:nx<=j+1) (ht:c.tb=tb) (hb:c.bd=bd) (hbl:Below w.heap.size w w') {err:Value} (hs:err= .nilIface\/∃t v,err= .iface t v):Hk bs bc bw bp tb bd bm j err w w':=
 ⟨fun _=>⟨c,R,nx,ib,D,(h.below hbl).mono (by omega),hd.more,by omega,ht,hb⟩,⟨c,ht,hb,(h.below hbl).mono (by omega)⟩,Ab hbl _,hs⟩
theorem Hk.chTo {k2:Nat} {G:Sts->Prop} {e:Ending} {ok:Value} {bad:Value->Value} {F:Prop} (h:Mb bs bc bw bp bm (400+4000 * j) tb bd G w e ok bad F w') (hG:∀c',G c'->∃R nx ib D,StD c' k2 R nx ib D/\nx<=j+2) (hk:k2<=2 * (j+1)):∃err v,Hk bs bc bw bp tb bd bm j err w w'/\e= .returned v/\((err= .nilIface/\v=ok)\/v=bad err):=by
 rcases h with⟨c',hg,ht,hb,rfl,hs,ho⟩|⟨_,t,v,c',ht,hb,rfl,hs,ho⟩
 ·obtain⟨R,nx,ib,D,hd,hn⟩:=hG c' hg
  exact⟨.nilIface,ok,⟨fun _=>⟨c',R,nx,ib,D,hs.mono (by omega),hd.more,hn,ht,hb⟩,⟨c',ht,hb,hs.mono (by omega)⟩,ho,.inl rfl⟩,rfl,.inl ⟨rfl,rfl⟩⟩
 ·exact⟨.iface t v,_,⟨fun e=>(by cases e),⟨c',ht,hb,hs.mono (by omega)⟩,ho,.inr ⟨t,v,rfl⟩⟩,rfl,.inr rfl⟩
theorem Wd (h:Stw bs bc bw bp c bm (400+4000 * j) w) (hd:StD c (2 * j) R nx ib D) (hn:nx<=j+1) (ht:c.tb=tb) (hb:c.bd=bd) (hj:j<50) (hx:x.Ok) (hv:BY w a 2 (inL x.a x.b)) (ha:∀ad,a=some ad->ad.block≠bp/\ad.block≠bm):
  Calls Tryz.prog 7 #[.pointer (some ⟨bs,0,none⟩),.string tnm,.slice a 2 2] w fun e w'=>∃v err,e= .returned (.tuple #[v,err])/\Hk bs bc bw bp tb bd bm j err w w':=by
 subst ht hb;refine(Hy h hd (by omega) (by omega) hv ha (Nat.le_refl _) hx.fa hx.fb).mono ?_;intro e w' hc;obtain⟨err,v,h1,rfl,⟨rfl,rfl⟩|rfl⟩:=Hk.chTo (k2:=2 * j+2) hc (fun c' hg=>⟨_,_,_,_,hg,by omega⟩) (by omega)
 ·exact⟨_,_,rfl,h1⟩
 ·exact⟨_,_,rfl,h1⟩
theorem Wf (h:Stw bs bc bw bp c bm (400+4000 * j) w) (hd:StD c (2 * j) R nx ib D) (hn:nx<=j+1) (ht:c.tb=tb) (hb:c.bd=bd) (hj:j<50) (hx:x.Ok):
  Calls Tryz.prog 8 #[.pointer (some ⟨bs,0,none⟩),.string tnm,.int .i64 x.r] w fun e w'=>∃err,e= .returned err/\Hk bs bc bw bp tb bd bm j err w w':=by
 subst ht hb
 by_cases hr:∃r∈R,x.r=(r.id:Nat)
 ·obtain⟨r,hr,e⟩:=hr
  refine(J7 h hd (by omega) (by omega) hr e).mono ?_;rintro e w' ⟨rfl,hs,ho⟩;exact⟨_,rfl,⟨fun _=>⟨_,_,_,_,_,hs.mono (by omega),(hd.take hr).more,by omega,TI _ _ _ _,TJ _ _ _ _⟩,⟨_,TI _ _ _ _,TJ _ _ _ _,hs.mono (by omega)⟩,ho,.inl rfl⟩⟩
 ·refine(Q5 h hd (by omega) (fun r hr2 e=>hr ⟨r,hr2,e⟩) hx.r1 hx.r2).mono ?_
  rintro e w' ⟨rfl,hbl⟩;exact⟨_,rfl,Hk.same h hd hn rfl rfl hbl (.inr ⟨_,_,rfl⟩)⟩
theorem VT (h:Stw bs bc bw bp c bm (400+4000 * j) w) (hd:StD c (2 * j) R nx ib D) (hn:nx<=j+1) (ht:c.tb=tb) (hb:c.bd=bd) (hj:j<50) (hx:x.Ok) (hv:BY w a 2 (inL x.a x.b)) (ha:∀ad,a=some ad->ad.block≠bp/\ad.block≠bm):
  Calls Tryz.prog 9 #[.pointer (some ⟨bs,0,none⟩),.string tnm,.int .i64 x.r,.slice a 2 2] w fun e w'=>∃err,e= .returned err/\Hk bs bc bw bp tb bd bm j err w w':=by
 subst ht hb
 by_cases hr:∃r∈R,x.r=(r.id:Nat)
 ·obtain⟨r,hr,e⟩:=hr
  refine(Ny h hd (by omega) (by omega) hr e hv ha (Nat.le_refl _) hx.fa hx.fb).mono ?_;intro e w' hc;obtain⟨err,v,h1,rfl,⟨rfl,rfl⟩|rfl⟩:=Hk.chTo (k2:=2 * j+2) hc (fun c' hg=>⟨_,_,_,_,hg,by omega⟩) (by omega)
  ·exact⟨_,rfl,h1⟩
  ·exact⟨_,rfl,h1⟩
 ·refine(Pv h hd (by omega) (fun r hr2 e=>hr ⟨r,hr2,e⟩) hx.r1 hx.r2 _).mono ?_
  rintro e w' ⟨rfl,hbl⟩;exact⟨_,rfl,Hk.same h hd hn rfl rfl hbl (.inr ⟨_,_,rfl⟩)⟩
theorem We (h:Stw bs bc bw bp c bm (400+4000 * j) w) (hd:StD c (2 * j) R nx ib D) (hn:nx<=j+1) (ht:c.tb=tb) (hb:c.bd=bd) (hj:j<50):
  Calls Tryz.prog 10 #[.pointer (some ⟨bs,0,none⟩),.string tnm,.string bnm] w fun e w'=>∃err,e= .returned err/\Hk bs bc bw bp tb bd bm j err w w':=by
 subst ht hb;have hl:=hd.len
 cases ib
 ·refine(Od h hd (by omega) (by omega) (by omega)).mono ?_
  rintro e w' ⟨rfl,hs,ho⟩;exact⟨_,rfl,⟨fun _=>⟨cJ c R nx R.length,R,nx,true,D,hs.mono (by omega),(Pe hd (by omega)).more,by omega,rfl,rfl⟩,⟨cJ c R nx R.length,rfl,rfl,hs.mono (by omega)⟩,ho,.inl rfl⟩⟩
 ·refine(LK h hd (by omega) (by omega)).mono ?_
  rintro e w' ⟨rfl,hbl⟩;exact⟨_,rfl,Hk.same h hd hn rfl rfl hbl (.inr ⟨_,_,rfl⟩)⟩
end
section
variable {bs bc bw bp bm N k nx:Nat} {c:Sts} {R:List Rw} {ib:Bool} {D:List Nd} {w:World}
set_option maxHeartbeats 1000000
theorem Ov (h:Stw bs bc bw bp c bm N w) (hd:StD c k [] nx ib D) (hk:k<200) (hN:N+9000<1000000):
  Calls Tryz.prog 16 #[.pointer (some ⟨bs,0,none⟩),.string tnm] w fun e w'=>e= .returned .nilIface/\Aa (fun b=>b=bp\/b=bm) w w':=by
 have HA:Hid _:=GI h hd rfl rfl hk;have HS:Hid _:=h;have HD:Hid _:=hd;clear h hd;go_enter Tryz.func16,Tryz.ntmps16;go_wp2_with fail;refine(show Calls _ _ _ _ _ from HA.out).mono ?_;rintro _ w2 ⟨ac,ai,lc,cc,li,ci,v,X,rfl,_,hx,hxr,hb⟩;have hX:X=[]:=List.map_eq_nil_iff.1 hxr;subst hX;obtain⟨va,vc,hv⟩:=Aj hx.row;subst hv;have hbA:Below w2.heap.size w2 (w2.alloc (.cells #[.int .i64 1,.int .i64 (nx:Nat),.string tnm,.slice ac lc cc,.slice ai li ci] 92)):=(Below.refl _ _).alloc (Nat.le_refl _) _;obtain⟨W,hW⟩:∃W,w2.alloc (.cells #[.int .i64 1,.int .i64 (nx:Nat),.string tnm,.slice ac lc cc,.slice ai li ci] 92)=W:=⟨_,rfl⟩;rw[hW]at hbA;have HS2:Hid (Stw bs bc bw bp c bm N W):=(HS.out.below hb).below hbA;have hn:=HD.out.nx;have HOW:Hid (Aa (fun b=>b=bp\/b=bm) w W):=Ab (hb.trans (hbA.mono hb.size)) _;have HDR:Hid _:=Q3 (HS2.out.cat (GN (nx:=nx) (by omega) ib) HD.out.m0) tnm (by decide) (by omega);have q0:=HS2.out.v.cell 0 (by simp);simp only[List.getElem_cons_zero]at q0;clear hx hb hbA HA hxr;go_wp2_with fail;go_loopw [23] (fun i wr=>i= .int .i64 0/\wr=W) (fun _ _=>0)
 case atStart=>exact⟨rfl,rfl⟩
 case round=>
  obtain⟨rfl,rfl⟩:=hrel;go_wp2_with fail;refine(show Calls _ _ _ _ _ from HDR.out).mono ?_;rintro _ w3 (⟨hno,_⟩|⟨_,rfl,_,ho3⟩)
  ·exact absurd rfl (hno _ (List.mem_singleton.2 rfl))
  ·have HOF:Hid (Aa (fun b=>b=bp\/b=bm) w w3):=HOW.out.trans ho3 (fun _ e=> .inl e)
   clear ho3;go_wp2;go_ret;exact⟨rfl,HOF.out⟩
end
theorem Ac.c8 {B:Nat} {a b c d e f g h:Value} {w:World} (hv:Ac B [a,b,c,d,e,f,g,h] w):w.cell? ⟨B,0,none⟩=some a/\w.cell? ⟨B,1,none⟩=some b/\w.cell? ⟨B,2,none⟩=some c/\w.cell? ⟨B,3,none⟩=some d/\w.cell? ⟨B,4,none⟩=some e/\w.cell? ⟨B,5,none⟩=some f/\w.cell? ⟨B,6,none⟩=some g/\w.cell? ⟨B,7,none⟩=some h:=
 ⟨hv.cell 0 (by simp),hv.cell 1 (by simp),hv.cell 2 (by simp),hv.cell 3 (by simp),hv.cell 4 (by simp),hv.cell 5 (by simp),hv.cell 6 (by simp),hv.cell 7 (by simp)⟩
set_option maxHeartbeats 40000000
theorem Oq (w:World) (n0 c0:Nat) (a0:Option Addr) (ch:Nat->Chg) (y z:Vl) (hx:ChA w a0 n0 ch) (hn0:n0<=50) (hy:y.s.size<=maxLen) (hz:z.s.size<=maxLen) (hg:Gl w) (h3:3<=w.heap.size):
  Calls Tryz.prog 3 #[.slice a0 n0 c0,.agg #[.int .i64 y.k,.int .i64 y.n,.string y.s],.agg #[.int .i64 z.k,.int .i64 z.n,.string z.s]] w fun e w'=>e= .returned (.bool true)/\Below w.heap.size w w':=by
 obtain⟨hA,hZ⟩:=At3.new2 y z w;have hb1:Below w.heap.size w ((w.alloc (.cells #[.int .i64 y.k,.int .i64 y.n,.string y.s] 24)).alloc (.cells #[.int .i64 z.k,.int .i64 z.n,.string z.s] 24)):=((Below.refl _ w).alloc (Nat.le_refl _) _).alloc (by simp) _;obtain⟨W1,hW1⟩:∃W1,(w.alloc (.cells #[.int .i64 y.k,.int .i64 y.n,.string y.s] 24)).alloc (.cells #[.int .i64 z.k,.int .i64 z.n,.string z.s] 24)=W1:=⟨_,rfl⟩;rw[hW1]at hA hZ hb1;have HA:Hid (At3 w.heap.size y W1):=hA;have HZ:Hid (At3 (w.heap.size+1) z W1):=hZ;have HX:Hid (ChA W1 a0 n0 ch):=hx.below hb1;have HB1:Hid (Below w.heap.size w W1):=hb1;have HMX:Hid (y.s.size<=maxLen/\z.s.size<=maxLen):=⟨hy,hz⟩;have HK:Hid _:=RR (hg.below hb1) (Nat.le_trans h3 hb1.size);have HG:Hid (Gl W1):=hg.below hb1;have H3:Hid (3<=W1.heap.size):=Nat.le_trans h3 hb1.size;have e0:¬(50:Int)<(n0:Int):=by omega
 clear hA hZ hb1 hx hy hz hg h3;go_enter Tryz.func3,Tryz.ntmps3;go_wp2_with fail;refine(show Calls _ _ _ _ _ from HK.out).mono ?_;rintro _ w2 ⟨rfl,hb2⟩;have HST:Hid _:=II (HG.out.below hb2) (Nat.le_trans H3.out hb2.size);have HB2:Hid (Below W1.heap.size W1 w2):=hb2;clear hb2 HK hW1;go_wp2_with fail;refine(show Calls _ _ _ _ _ from HST.out).mono ?_;rintro _ w3 ⟨bs,bc,bw,bp,bm0,bd,tb,rfl,hs3,hbs,hbp,hbm,hb3⟩;have HBP:Hid (w2.heap.size<=bp):=hbp;have HS0:Hid (St8 bs bc bw bp tb bd 0 w2 w3):=⟨⟨c1S bd tb,bm0,[],1,false,[],hs3,Is bd tb,Nat.le_refl _,rfl,rfl,hbm⟩,hb3⟩;clear hs3 hbs hbp hbm hb3 HST;go_wp2_with fail;go_loopw [9] (fun i wr=>∃j:Nat,j<=n0/\i= .int .i64 (j:Nat)/\Hid (St8 bs bc bw bp tb bd j w2 wr)) (fun i _=>n0+1-(intOf i).toNat)
 case atStart=>exact⟨0,Nat.zero_le _,rfl,HS0⟩
 case round=>
  clear HS0;obtain⟨j,hj,rfl,HT8⟩:=hrel;obtain⟨⟨c,bm,R,nx,ib,D,hs,hd,hnx,htb,hbd,hbm⟩,hbr⟩:=HT8.out;have HB0:Hid (Below w2.heap.size w2 wr):=hbr;have HBM:Hid (w2.heap.size<=bm):=hbm;have HD:Hid _:=hd;have HSr:Hid (Stw bs bc bw bp c bm (400+4000 * j) wr):=hs;have HTB:Hid (c.tb=tb/\c.bd=bd):=⟨htb,hbd⟩;have HNX:Hid (nx<=j+1):=hnx;clear hs hd hnx htb hbd hbm hbr HT8
  by_cases hlt:j<n0
  ·have h1:(j:Int)<(n0:Int):=by omega
   have hj50:j<50:=by omega
   obtain⟨hok,b,o,ha,hlb,hc⟩:=(HX.out.below HB2.out).below (Below.mono HB0.out (Nat.le_refl _)) j hlt;subst ha;obtain⟨x,hxe⟩:∃x,ch j=x:=⟨_,rfl⟩;rw[hxe]at hok hc;have HOK:Hid x.Ok:=hok;have k0:wr.cell? ⟨b,o+j * 8,none⟩=some (.int .i64 x.q):=hc 0 (by omega);have k1:wr.cell? ⟨b,o+j * 8+1,none⟩=some (.int .i64 x.r):=hc 1 (by omega);have k2:wr.cell? ⟨b,o+j * 8+2,none⟩=some (.int .i64 x.a.k):=hc 2 (by omega);have k3:wr.cell? ⟨b,o+j * 8+3,none⟩=some (.int .i64 x.a.n):=hc 3 (by omega);have k4:wr.cell? ⟨b,o+j * 8+4,none⟩=some (.string x.a.s):=hc 4 (by omega);have k5:wr.cell? ⟨b,o+j * 8+5,none⟩=some (.int .i64 x.b.k):=hc 5 (by omega);have k6:wr.cell? ⟨b,o+j * 8+6,none⟩=some (.int .i64 x.b.n):=hc 6 (by omega);have k7:wr.cell? ⟨b,o+j * 8+7,none⟩=some (.string x.b.s):=hc 7 (by omega);have hix:∀wx,(Instr.indexAt 22 (.slice (some ⟨b,o,none⟩) n0 c0) (.int .i64 (j:Nat))).run Tryz.prog wx= .ok (.pointer (some ⟨b,o+j * 8,none⟩)) wx:=fun wx=>MS b o n0 c0 j hlt wx;have hvx:=Ac.new wr #[.int .i64 x.q,.int .i64 x.r,.int .i64 x.a.k,.int .i64 x.a.n,.string x.a.s,.int .i64 x.b.k,.int .i64 x.b.n,.string x.b.s] 31 (by simp);have hbx:Below wr.heap.size wr (wr.alloc (.cells #[.int .i64 x.q,.int .i64 x.r,.int .i64 x.a.k,.int .i64 x.a.n,.string x.a.s,.int .i64 x.b.k,.int .i64 x.b.n,.string x.b.s] 31)):=(Below.refl _ _).alloc (Nat.le_refl _) _;obtain⟨W4,hW4⟩:∃W4,wr.alloc (.cells #[.int .i64 x.q,.int .i64 x.r,.int .i64 x.a.k,.int .i64 x.a.n,.string x.a.s,.int .i64 x.b.k,.int .i64 x.b.n,.string x.b.s] 31)=W4:=⟨_,rfl⟩;rw[hW4]at hvx hbx;have HVX:Hid (Ac wr.heap.size [.int .i64 x.q,.int .i64 x.r,.int .i64 x.a.k,.int .i64 x.a.n,.string x.a.s,.int .i64 x.b.k,.int .i64 x.b.n,.string x.b.s] W4):=hvx;have HBX:Hid (Below wr.heap.size wr W4):=hbx;have HMK:Hid _:=V6 (HSr.out.below hbx);clear hok hc hlb hxe hvx hbx;go_wp2_with fail;refine(show Calls _ _ _ _ _ from HMK.out).mono ?_;rintro _ w5 ⟨M,mk,rfl,lM,hmk1,hmk2,hmd,hb5⟩;have hmz:=Tryz.zeroValue40;have sM:(Tryz.prog.info? 40).map (·.size)=some M.length:=by rw[lM];exact Uw
   have sM2:(Tryz.prog.info? 40).map (·.size)=some M.toArray.size:=by rw[List.size_toArray];exact sM
   have oM:=hmd.one;have HSM:Hid _:=sM;have HTH:Hid ((w5.alloc (.cells Tryz.zeroCells40 40)).there w5.heap.size 0 M.toArray.size):=Me w5 _ _ _ (by rw[List.size_toArray,lM,SL];omega);have hb6:Below w5.heap.size w5 ((w5.alloc (.cells Tryz.zeroCells40 40)).setCells w5.heap.size 0 M):=Below.setCells' (Nat.le_refl _) _ _ _ ((Below.refl _ w5).alloc (Nat.le_refl _) _);have hrow:((w5.alloc (.cells Tryz.zeroCells40 40)).setCells w5.heap.size 0 M).rangeAt w5.heap.size 0 M:=World.rangeAt_setCells_same _ _ _ _ (by have:=HTH.out;rw[List.size_toArray]at this;exact this);have hlv:w5.heap.size<((w5.alloc (.cells Tryz.zeroCells40 40)).setCells w5.heap.size 0 M).heap.size:=by rw[A3,World.size_alloc];omega
   obtain⟨w6,hw6⟩:∃w6,(w5.alloc (.cells Tryz.zeroCells40 40)).setCells w5.heap.size 0 M=w6:=⟨_,rfl⟩;rw[hw6]at hb6 hrow hlv;have hs5:=hmk1;have hsz5:=hb5.size;have hrx:=HBX.out.size;have hrb:=HB0.out.size;have HVX6:Hid (Ac wr.heap.size [.int .i64 x.q,.int .i64 x.r,.int .i64 x.a.k,.int .i64 x.a.n,.string x.a.s,.int .i64 x.b.k,.int .i64 x.b.n,.string x.b.s] w6):=(HVX.out.below hb5).below hb6;have HS6:Hid (Stw bs bc bw bp c bm (400+4000 * j) w6):=((HSr.out.below HBX.out).below hb5).below hb6;have HMD6:Hid (Mkd c M mk (400+4000 * j) w6):=hmd.only (Ab hb6 (fun _=>False)) hmk2 (fun e=>e);have HB6:Hid (Below w2.heap.size w2 w6):=((HB0.out.trans (HBX.out.mono HB0.out.size)).trans (hb5.mono (by omega))).trans (hb6.mono (by omega));have hlr:=HSr.out.lt;have HNE:Hid (mk≠bp/\mk≠bm/\w5.heap.size≠bp/\w5.heap.size≠bm/\mk<w6.heap.size/\w5.heap.size<w6.heap.size):=⟨by omega,by omega,by omega,by omega,Nat.lt_of_lt_of_le hmk2 hb6.size,hlv⟩;have HRW:Hid (w6.rangeAt w5.heap.size 0 M):=hrow;have HLB:Hid (bp<w6.heap.size/\bm<w6.heap.size):=⟨HS6.out.lt.1,HS6.out.lt.2.1⟩;obtain⟨m0,m1,m2,m3,m4,m5,m6,m7⟩:=HVX6.out.c8;have HLM:Hid (M.length=2018):=lM;clear k0 k1 k2 k3 k4 k5 k6 k7 hW4 HMK hb6 hrow hlv hmd hb5 hs5 hsz5 hrx hrb hlr hmk1 hmk2
   by_cases hq0:x.q=0
   ·rw[hq0]at m0
    obtain⟨wa,hwa⟩:∃wa,w6.alloc (.cells #[.int .i64 x.a.k,.int .i64 x.a.n,.string x.a.s,.int .i64 x.b.k,.int .i64 x.b.n,.string x.b.s] 24)=wa:=⟨_,rfl⟩;have hba:Below w6.heap.size w6 wa:=by rw[<-hwa];exact(Below.refl _ _).alloc (Nat.le_refl _) _
    have hvr:BY wa (some ⟨w6.heap.size,0,none⟩) 2 (inL x.a x.b):=by rw[<-hwa];exact ID w6 x.a x.b HOK.out.sa HOK.out.sb 24
    have hnb:∀ad:Addr,some (⟨w6.heap.size,0,none⟩:Addr)=some ad->ad.block≠bp/\ad.block≠bm:=fun ad e=>by
     cases e
     have:=HLB.out;exact⟨by show w6.heap.size≠bp;omega,by show w6.heap.size≠bm;omega⟩
    have HSa:Hid (Stw bs bc bw bp c bm (400+4000 * j) wa):=HS6.out.below hba;have HBa:Hid (Below w6.heap.size w6 wa):=hba;have HC:Hid _:=Wd HSa.out HD.out HNX.out HTB.out.1 HTB.out.2 hj50 HOK.out hvr hnb;clear hba hvr hnb
    go_wp2_with (refine wpList_store_mid rfl 40 _ _ rfl w5.heap.size 0 M.toArray rfl rfl HTH.out sM2 oM ?_;rw[hw6])
    clear hmz oM sM sM2 hw6 m0 m1 m2 m3 m4 m5 m6 m7 hwa;refine(show Calls _ _ _ _ _ from HC.out).mono ?_;rintro _ w7 ⟨v,err,rfl,hact⟩;have HA:Hid _:=hact
    have HRW7:Hid (w7.rangeAt w5.heap.size 0 M):=fun jj v hj=>by
     have h1:=((Ab HBa.out (fun b=>b=bp\/b=bm)).trans HA.out.o (fun _ e=> .inl e)).cell HNE.out.2.2.2.2.2 (fun e=>by have:=HNE.out;rcases e with e|e<;>omega) (0+jj);exact h1.trans (HRW.out jj v hj)
    have HMD7:Hid (Mkd c M mk (400+4000 * j) w7):=HMD6.out.only ((Ab HBa.out (fun b=>b=bp\/b=bm)).trans HA.out.o (fun _ e=> .inl e)) HNE.out.2.2.2.2.1 (fun e=>by have:=HNE.out;rcases e with e|e<;>omega);have HB7:Hid (Below w2.heap.size w2 w7):=Aa.below (HB6.out.trans (HBa.out.mono HB6.out.size)) HA.out.o (HB6.out.trans (HBa.out.mono HB6.out.size)).size (fun i e=>by have:=HBM.out;have:=HBP.out;rcases e with e|e<;>omega);clear hact HC;rcases HA.out.sh with rfl|⟨tt,vv,rfl⟩
    ·go_wp2_with fail
     refine⟨⟨j+1,by omega,by go_num,?_⟩,by simp[intOf];omega⟩;obtain⟨c2,R2,nx2,ib2,D2,g1,g2,g3,g4,g5⟩:=HA.out.ok rfl;exact⟨⟨c2,bm,R2,nx2,ib2,D2,g1,g2,by omega,g4,g5,HBM.out⟩,HB7.out⟩
    ·obtain⟨c',g1,g2,g3⟩:=HA.out.er
     have HBK:Hid _:=Pf g3 HMD7.out HNE.out.1 (by rw[g2,HTB.out.2]) (by rw[g1,HTB.out.1]);clear g1 g2 g3;go_wp2_with fail;refine wp_load_mid 40 _ rfl w5.heap.size 0 rfl M _ HRW7.out Tryz.underlying40 rfl HSM.out ?_;go_wp2_with fail;refine(show Calls _ _ _ _ _ from HBK.out).mono ?_;rintro _ w8 ⟨rfl,⟨bm2,hbm2,hs8⟩,ho8⟩;have HS8:Hid _:=hs8;have HB8:Hid (Below w2.heap.size w2 w8):=Aa.below HB7.out ho8 HB7.out.size (fun i e=>by have:=HBP.out;rw[e];omega);have HM8:Hid (w2.heap.size<=bm2):=Nat.le_trans HB7.out.size hbm2;clear hbm2 hs8 ho8 HBK;go_wp2_with fail;refine⟨⟨j+1,by omega,by go_num,?_⟩,by simp[intOf];omega⟩;exact⟨⟨c,bm2,R,nx,ib,D,HS8.out.mono (by omega),HD.out.more,by have:=HNX.out;omega,HTB.out.1,HTB.out.2,HM8.out⟩,HB8.out⟩
   by_cases hq1:x.q=1
   ·rw[hq1]at m0
    obtain⟨wa,hwa⟩:∃wa,w6=wa:=⟨_,rfl⟩;have hba:Below w6.heap.size w6 wa:=by rw[<-hwa];exact Below.refl _ _
    have HSa:Hid (Stw bs bc bw bp c bm (400+4000 * j) wa):=HS6.out.below hba;have HBa:Hid (Below w6.heap.size w6 wa):=hba;have HC:Hid _:=Wf HSa.out HD.out HNX.out HTB.out.1 HTB.out.2 hj50 HOK.out;subst hwa;clear hba
    go_wp2_with (refine wpList_store_mid rfl 40 _ _ rfl w5.heap.size 0 M.toArray rfl rfl HTH.out sM2 oM ?_;rw[hw6])
    clear hmz oM sM sM2 hw6 m0 m1 m2 m3 m4 m5 m6 m7;refine(show Calls _ _ _ _ _ from HC.out).mono ?_;rintro _ w7 ⟨err,rfl,hact⟩;have HA:Hid _:=hact
    have HRW7:Hid (w7.rangeAt w5.heap.size 0 M):=fun jj v hj=>by
     have h1:=((Ab HBa.out (fun b=>b=bp\/b=bm)).trans HA.out.o (fun _ e=> .inl e)).cell HNE.out.2.2.2.2.2 (fun e=>by have:=HNE.out;rcases e with e|e<;>omega) (0+jj);exact h1.trans (HRW.out jj v hj)
    have HMD7:Hid (Mkd c M mk (400+4000 * j) w7):=HMD6.out.only ((Ab HBa.out (fun b=>b=bp\/b=bm)).trans HA.out.o (fun _ e=> .inl e)) HNE.out.2.2.2.2.1 (fun e=>by have:=HNE.out;rcases e with e|e<;>omega);have HB7:Hid (Below w2.heap.size w2 w7):=Aa.below (HB6.out.trans (HBa.out.mono HB6.out.size)) HA.out.o (HB6.out.trans (HBa.out.mono HB6.out.size)).size (fun i e=>by have:=HBM.out;have:=HBP.out;rcases e with e|e<;>omega);clear hact HC;rcases HA.out.sh with rfl|⟨tt,vv,rfl⟩
    ·go_wp2_with fail
     refine⟨⟨j+1,by omega,by go_num,?_⟩,by simp[intOf];omega⟩;obtain⟨c2,R2,nx2,ib2,D2,g1,g2,g3,g4,g5⟩:=HA.out.ok rfl;exact⟨⟨c2,bm,R2,nx2,ib2,D2,g1,g2,by omega,g4,g5,HBM.out⟩,HB7.out⟩
    ·obtain⟨c',g1,g2,g3⟩:=HA.out.er
     have HBK:Hid _:=Pf g3 HMD7.out HNE.out.1 (by rw[g2,HTB.out.2]) (by rw[g1,HTB.out.1]);clear g1 g2 g3;go_wp2_with fail;refine wp_load_mid 40 _ rfl w5.heap.size 0 rfl M _ HRW7.out Tryz.underlying40 rfl HSM.out ?_;go_wp2_with fail;refine(show Calls _ _ _ _ _ from HBK.out).mono ?_;rintro _ w8 ⟨rfl,⟨bm2,hbm2,hs8⟩,ho8⟩;have HS8:Hid _:=hs8;have HB8:Hid (Below w2.heap.size w2 w8):=Aa.below HB7.out ho8 HB7.out.size (fun i e=>by have:=HBP.out;rw[e];omega);have HM8:Hid (w2.heap.size<=bm2):=Nat.le_trans HB7.out.size hbm2;clear hbm2 hs8 ho8 HBK;go_wp2_with fail;refine⟨⟨j+1,by omega,by go_num,?_⟩,by simp[intOf];omega⟩;exact⟨⟨c,bm2,R,nx,ib,D,HS8.out.mono (by omega),HD.out.more,by have:=HNX.out;omega,HTB.out.1,HTB.out.2,HM8.out⟩,HB8.out⟩
   by_cases hq2:x.q=2
   ·rw[hq2]at m0
    obtain⟨wa,hwa⟩:∃wa,w6.alloc (.cells #[.int .i64 x.a.k,.int .i64 x.a.n,.string x.a.s,.int .i64 x.b.k,.int .i64 x.b.n,.string x.b.s] 24)=wa:=⟨_,rfl⟩;have hba:Below w6.heap.size w6 wa:=by rw[<-hwa];exact(Below.refl _ _).alloc (Nat.le_refl _) _
    have hvr:BY wa (some ⟨w6.heap.size,0,none⟩) 2 (inL x.a x.b):=by rw[<-hwa];exact ID w6 x.a x.b HOK.out.sa HOK.out.sb 24
    have hnb:∀ad:Addr,some (⟨w6.heap.size,0,none⟩:Addr)=some ad->ad.block≠bp/\ad.block≠bm:=fun ad e=>by
     cases e
     have:=HLB.out;exact⟨by show w6.heap.size≠bp;omega,by show w6.heap.size≠bm;omega⟩
    have HSa:Hid (Stw bs bc bw bp c bm (400+4000 * j) wa):=HS6.out.below hba;have HBa:Hid (Below w6.heap.size w6 wa):=hba;have HC:Hid _:=VT HSa.out HD.out HNX.out HTB.out.1 HTB.out.2 hj50 HOK.out hvr hnb;clear hba hvr hnb
    go_wp2_with (refine wpList_store_mid rfl 40 _ _ rfl w5.heap.size 0 M.toArray rfl rfl HTH.out sM2 oM ?_;rw[hw6])
    clear hmz oM sM sM2 hw6 m0 m1 m2 m3 m4 m5 m6 m7 hwa;refine(show Calls _ _ _ _ _ from HC.out).mono ?_;rintro _ w7 ⟨err,rfl,hact⟩;have HA:Hid _:=hact
    have HRW7:Hid (w7.rangeAt w5.heap.size 0 M):=fun jj v hj=>by
     have h1:=((Ab HBa.out (fun b=>b=bp\/b=bm)).trans HA.out.o (fun _ e=> .inl e)).cell HNE.out.2.2.2.2.2 (fun e=>by have:=HNE.out;rcases e with e|e<;>omega) (0+jj);exact h1.trans (HRW.out jj v hj)
    have HMD7:Hid (Mkd c M mk (400+4000 * j) w7):=HMD6.out.only ((Ab HBa.out (fun b=>b=bp\/b=bm)).trans HA.out.o (fun _ e=> .inl e)) HNE.out.2.2.2.2.1 (fun e=>by have:=HNE.out;rcases e with e|e<;>omega);have HB7:Hid (Below w2.heap.size w2 w7):=Aa.below (HB6.out.trans (HBa.out.mono HB6.out.size)) HA.out.o (HB6.out.trans (HBa.out.mono HB6.out.size)).size (fun i e=>by have:=HBM.out;have:=HBP.out;rcases e with e|e<;>omega);clear hact HC;rcases HA.out.sh with rfl|⟨tt,vv,rfl⟩
    ·go_wp2_with fail
     refine⟨⟨j+1,by omega,by go_num,?_⟩,by simp[intOf];omega⟩;obtain⟨c2,R2,nx2,ib2,D2,g1,g2,g3,g4,g5⟩:=HA.out.ok rfl;exact⟨⟨c2,bm,R2,nx2,ib2,D2,g1,g2,by omega,g4,g5,HBM.out⟩,HB7.out⟩
    ·obtain⟨c',g1,g2,g3⟩:=HA.out.er
     have HBK:Hid _:=Pf g3 HMD7.out HNE.out.1 (by rw[g2,HTB.out.2]) (by rw[g1,HTB.out.1]);clear g1 g2 g3;go_wp2_with fail;refine wp_load_mid 40 _ rfl w5.heap.size 0 rfl M _ HRW7.out Tryz.underlying40 rfl HSM.out ?_;go_wp2_with fail;refine(show Calls _ _ _ _ _ from HBK.out).mono ?_;rintro _ w8 ⟨rfl,⟨bm2,hbm2,hs8⟩,ho8⟩;have HS8:Hid _:=hs8;have HB8:Hid (Below w2.heap.size w2 w8):=Aa.below HB7.out ho8 HB7.out.size (fun i e=>by have:=HBP.out;rw[e];omega);have HM8:Hid (w2.heap.size<=bm2):=Nat.le_trans HB7.out.size hbm2;clear hbm2 hs8 ho8 HBK;go_wp2_with fail;refine⟨⟨j+1,by omega,by go_num,?_⟩,by simp[intOf];omega⟩;exact⟨⟨c,bm2,R,nx,ib,D,HS8.out.mono (by omega),HD.out.more,by have:=HNX.out;omega,HTB.out.1,HTB.out.2,HM8.out⟩,HB8.out⟩
   by_cases hq3:x.q=3
   ·rw[hq3]at m0
    obtain⟨wa,hwa⟩:∃wa,w6=wa:=⟨_,rfl⟩;have hba:Below w6.heap.size w6 wa:=by rw[<-hwa];exact Below.refl _ _
    have HSa:Hid (Stw bs bc bw bp c bm (400+4000 * j) wa):=HS6.out.below hba;have HBa:Hid (Below w6.heap.size w6 wa):=hba;have HC:Hid _:=We HSa.out HD.out HNX.out HTB.out.1 HTB.out.2 hj50;subst hwa;clear hba
    go_wp2_with (refine wpList_store_mid rfl 40 _ _ rfl w5.heap.size 0 M.toArray rfl rfl HTH.out sM2 oM ?_;rw[hw6])
    clear hmz oM sM sM2 hw6 m0 m1 m2 m3 m4 m5 m6 m7;refine(show Calls _ _ _ _ _ from HC.out).mono ?_;rintro _ w7 ⟨err,rfl,hact⟩;have HA:Hid _:=hact
    have HRW7:Hid (w7.rangeAt w5.heap.size 0 M):=fun jj v hj=>by
     have h1:=((Ab HBa.out (fun b=>b=bp\/b=bm)).trans HA.out.o (fun _ e=> .inl e)).cell HNE.out.2.2.2.2.2 (fun e=>by have:=HNE.out;rcases e with e|e<;>omega) (0+jj);exact h1.trans (HRW.out jj v hj)
    have HMD7:Hid (Mkd c M mk (400+4000 * j) w7):=HMD6.out.only ((Ab HBa.out (fun b=>b=bp\/b=bm)).trans HA.out.o (fun _ e=> .inl e)) HNE.out.2.2.2.2.1 (fun e=>by have:=HNE.out;rcases e with e|e<;>omega);have HB7:Hid (Below w2.heap.size w2 w7):=Aa.below (HB6.out.trans (HBa.out.mono HB6.out.size)) HA.out.o (HB6.out.trans (HBa.out.mono HB6.out.size)).size (fun i e=>by have:=HBM.out;have:=HBP.out;rcases e with e|e<;>omega);clear hact HC;rcases HA.out.sh with rfl|⟨tt,vv,rfl⟩
    ·go_wp2_with fail
     refine⟨⟨j+1,by omega,by go_num,?_⟩,by simp[intOf];omega⟩;obtain⟨c2,R2,nx2,ib2,D2,g1,g2,g3,g4,g5⟩:=HA.out.ok rfl;exact⟨⟨c2,bm,R2,nx2,ib2,D2,g1,g2,by omega,g4,g5,HBM.out⟩,HB7.out⟩
    ·obtain⟨c',g1,g2,g3⟩:=HA.out.er
     have HBK:Hid _:=Pf g3 HMD7.out HNE.out.1 (by rw[g2,HTB.out.2]) (by rw[g1,HTB.out.1]);clear g1 g2 g3;go_wp2_with fail;refine wp_load_mid 40 _ rfl w5.heap.size 0 rfl M _ HRW7.out Tryz.underlying40 rfl HSM.out ?_;go_wp2_with fail;refine(show Calls _ _ _ _ _ from HBK.out).mono ?_;rintro _ w8 ⟨rfl,⟨bm2,hbm2,hs8⟩,ho8⟩;have HS8:Hid _:=hs8;have HB8:Hid (Below w2.heap.size w2 w8):=Aa.below HB7.out ho8 HB7.out.size (fun i e=>by have:=HBP.out;rw[e];omega);have HM8:Hid (w2.heap.size<=bm2):=Nat.le_trans HB7.out.size hbm2;clear hbm2 hs8 ho8 HBK;go_wp2_with fail;refine⟨⟨j+1,by omega,by go_num,?_⟩,by simp[intOf];omega⟩;exact⟨⟨c,bm2,R,nx,ib,D,HS8.out.mono (by omega),HD.out.more,by have:=HNX.out;omega,HTB.out.1,HTB.out.2,HM8.out⟩,HB8.out⟩
   obtain⟨wa,hwa⟩:∃wa,w6=wa:=⟨_,rfl⟩;have hba:Below w6.heap.size w6 wa:=by rw[<-hwa];exact Below.refl _ _
   have HSa:Hid (Stw bs bc bw bp c bm (400+4000 * j) wa):=HS6.out.below hba;have HBa:Hid (Below w6.heap.size w6 wa):=hba;subst hwa;clear hba
   go_wp2_with (refine wpList_store_mid rfl 40 _ _ rfl w5.heap.size 0 M.toArray rfl rfl HTH.out sM2 oM ?_;rw[hw6])
   refine⟨⟨j+1,by omega,by go_num,?_⟩,by simp[intOf];omega⟩;exact⟨⟨c,bm,R,nx,ib,D,HS6.out.mono (by omega),HD.out.more,by have:=HNX.out;omega,HTB.out.1,HTB.out.2,HBM.out⟩,HB6.out⟩
  ·have h1:¬(j:Int)<(n0:Int):=by omega
   obtain rfl:n0=j:=by omega
   have HSC:Hid _:=P7 HSr.out HD.out (by omega);go_wp2_with fail;refine(show Calls _ _ _ _ _ from HSC.out).mono ?_;rintro _ w9 ⟨v,X,rfl,hx9,hxr,hb9⟩;have HS9:Hid (Stw bs bc bw bp c bm (400+4000 * n0) w9):=HSr.out.below hb9;have HB9:Hid (Below w2.heap.size w2 w9):=HB0.out.trans (hb9.mono HB0.out.size);have HX9:Hid (AL wr.heap.size v X w9):=hx9;have HXR:Hid (X.map (·.r)=R):=hxr;have HBA:Hid (Below W1.heap.size W1 w9):=HB2.out.trans (HB9.out.mono HB2.out.size);have HLB:Hid (bp<wr.heap.size/\bm<wr.heap.size):=⟨HSr.out.lt.1,HSr.out.lt.2.1⟩;have hA9:=HA.out.below HBA.out;have hZ9:=HZ.out.below HBA.out;have a0':=hA9.c0;have a1':=hA9.c1;have a2':=hA9.c2;have z0':=hZ9.c0;have z1':=hZ9.c1;have z2':=hZ9.c2;have HRD:Hid _:=NF HS9.out HD.out (by omega) HX9.out HXR.out y z HMX.out.1 HMX.out.2;clear hx9 hxr hb9 hA9 hZ9 HSC;go_wp2_with fail;refine(show Calls _ _ _ _ _ from HRD.out).mono ?_;rintro _ w10 ⟨rfl,hb10⟩;have HB10:Hid (Below w9.heap.size w9 w10):=hb10;have HWD:Hid _:=Nw (HS9.out.below hb10) HD.out (by omega) (HX9.out.below hb10) HXR.out;clear hb10 HRD a0' a1' a2' z0' z1' z2';go_wp2_with fail;refine(show Calls _ _ _ _ _ from HWD.out).mono ?_;rintro _ w11 ⟨rfl,hb11⟩;have HB11:Hid (Below w9.heap.size w9 w11):=HB10.out.trans (hb11.mono HB10.out.size);have HS11:Hid (Stw bs bc bw bp c bm (400+4000 * n0+2200 * 0) w11):=HS9.out.below HB11.out;have HX11:Hid (AL wr.heap.size v X w11):=HX9.out.below HB11.out;have HBB:Hid (Below w2.heap.size w2 w11):=HB9.out.trans (HB11.out.mono HB9.out.size);obtain⟨nr,hnr⟩:∃nr,R.length=nr:=⟨_,rfl⟩;have HNR:Hid (R.length=nr):=hnr;have hnr2:nr<=60:=by have:=HD.out.len;have:=HNX.out;omega
   obtain⟨va,vc,hv⟩:=Aj HX11.out.row;subst hv;have hxl:X.length=nr:=by rw[<-hnr,<-HXR.out,List.length_map]
   rw[hxl]at HX11 ⊢;have HXL:Hid (X.length=nr):=hxl;clear hb11 HWD hnr hxl HX9;go_wp2_with fail;obtain⟨wo,hwo⟩:∃wo,wo=wr:=⟨_,rfl⟩;subst hwo;go_loopw [15] (fun i wr=>∃i0:Nat,i0<=nr/\i= .int .i64 (i0:Nat)/\(∃c2 D2,Hid (Stw bs bc bw bp c2 bm (400+4000 * n0+2200 * i0) wr)/\Hid (StD c2 (2 * n0) (R.drop i0) nx ib D2))/\Hid (AL wo.heap.size (.slice va nr vc) X wr)/\Hid (Below w2.heap.size w2 wr)) (fun i _=>nr+1-(intOf i).toNat)
   case atStart=>exact⟨0,Nat.zero_le _,rfl,⟨c,D,HS11,HD⟩,HX11,HBB⟩
   case round=>
    clear HS11 HX11 HBB;obtain⟨i0,hi0,rfl,⟨c2,D2,HS,HDD⟩,HXX,HBC⟩:=hrel
    by_cases hli:i0<nr
    ·have h2:(i0:Int)<(nr:Int):=by omega
     have hil:i0<X.length:=by rw[HXL.out];exact hli
     have hiR:i0<R.length:=by rw[HNR.out];exact hli
     obtain⟨g,cap,av,cv,hv,hg,hxv,k0,k1,hov,hix⟩:=HXX.out.at hil;rw[HXL.out]at hv hix
     cases hv
     have hXr:X[i0].r=R[i0]:=by
      have:=HXR.out;subst this;rw[List.getElem_map]
     rw[hXr]at k0;have hdr:R.drop i0=R[i0]::R.drop (i0+1):=List.drop_eq_getElem_cons hiR;have hmem:R[i0]∈R.drop i0:=by rw[hdr];exact List.mem_cons_self
     have HDL:Hid _:=J7 HS.out HDD.out (by omega) (by omega) hmem rfl;have htk:=HDD.out.take hmem;have hids:=HDD.out.ids;rw[hdr]at hids;have hdel:Hf R[i0].id (R.drop i0)=R.drop (i0+1):=by rw[hdr];exact Q7 hids
     rw[hdel]at htk;have HTK:Hid _:=htk;clear hov hxv k1 hXr hdr hmem htk hids hdel;go_wp2_with fail;refine(show Calls _ _ _ _ _ from HDL.out).mono ?_;rintro _ w12 ⟨rfl,hs12,ho12⟩;have HS12:Hid _:=hs12;have HX12:Hid _:=HXX.out.only ho12 (fun b e=>by have:=HLB.out;rcases e with e|e<;>omega);have HB12:Hid (Below w2.heap.size w2 w12):=Aa.below HBC.out ho12 HBC.out.size (fun b e=>by have:=HBM.out;have:=HBP.out;rcases e with e|e<;>omega);clear hs12 ho12 HDL k0;go_wp2_with fail;refine⟨⟨i0+1,by omega,by go_num,⟨_,_,HS12.out.mono (by omega),HTK⟩,HX12,HB12⟩,by simp[intOf];omega⟩
    ·have h2:¬(i0:Int)<(nr:Int):=by omega
     obtain rfl:nr=i0:=by omega
     have hdn:=HDD.out;rw[List.drop_of_length_le (by rw[HNR.out];exact Nat.le_refl _)]at hdn;have hD0:D2=[]:=List.length_eq_zero_iff.1 hdn.sum;subst hD0;have HDN:Hid _:=hdn;have q1:=HS.out.v.cell 1 (by simp);simp only[List.getElem_cons_zero,List.getElem_cons_succ]at q1;have HMY:Hid _:=RH hdn.nd (HS.out.fin hdn.m3 hdn.z3) HS.out.g;clear hdn;go_wp2_with fail;refine(show Calls _ _ _ _ _ from HMY.out).mono ?_;rintro _ w13 ⟨rfl,hb13⟩;have HS13:Hid _:=HS.out.below hb13;have HB13:Hid (Below w2.heap.size w2 w13):=HBC.out.trans (hb13.mono HBC.out.size);have HDP:Hid _:=Ov HS13.out HDN.out (by omega) (by omega);clear hb13 q1 HMY;go_wp2_with fail;refine(show Calls _ _ _ _ _ from HDP.out).mono ?_;rintro _ w14 ⟨rfl,ho14⟩;have HB14:Hid (Below w2.heap.size w2 w14):=Aa.below HB13.out ho14 HB13.out.size (fun b e=>by have:=HBM.out;have:=HBP.out;rcases e with e|e<;>omega);have HBZ:Hid (Below w.heap.size w w2):=HB1.out.trans (HB2.out.mono HB1.out.size);clear ho14 HDP;go_wp2;go_ret;exact⟨rfl,HBZ.out.trans (HB14.out.mono HBZ.out.size)⟩
end
section
open Go.ChangeShapes Go.WideShapes Go.ChangeAt Go.RowKit
theorem DP:Tryz.prog.globalNamed "concordance/word.ends" =some 0:=by kernel_rfl
theorem Vw:(Tryz.prog.globals[0]?).map (·.type)=some 221:=by kernel_rfl
theorem Vi:Tryz.prog.cellsOf 220=2:=by kernel_rfl
theorem Ga {H:Type} {enc:TypeId×Value->H} {W:World} {spare:Nat->Bool} {held:Bool} {fuel:Nat} {cs:List Value} {i:Nat} {a b:List UInt8} {q:List MemPlace}
  (h:DataW.trod enc Tryz.prog W 0 spare held fuel 220 ((cs.drop (i * 2)).take 2)=some (.agg [.lit (.string a),.lit (.string b)],q)):
  cs[i * 2]? =some (.string ⟨a.toArray⟩)/\cs[i * 2+1]? =some (.string ⟨b.toArray⟩):=by
 obtain⟨y0,y1,n,hx,hl,t0,t1⟩:=trod_struct2 Tryz.underlying220 h;simp only[Vj]at t0 t1;obtain⟨s0,e0,f0,_⟩:=DataW.trod_string Tryz.underlying9 t0;obtain⟨s1,e1,f1,_⟩:=DataW.trod_string Tryz.underlying9 t1;subst f0 f1;simp at hx;obtain⟨⟨rfl,rfl⟩,_⟩:=hx;have g0:=congrArg (·[0]?) e0;have g1:=congrArg (·[0]?) e1;simp[List.getElem?_drop]at g0 g1;exact⟨by simpa using g0,by simpa using g1⟩
theorem TB {W:World} {fuel:Nat} {cs:Array Value} {p:List MemPlace} {spare:Nat->Bool} {held:Bool} {enc:TypeId×Value->Unit} (hv:W.var? Tryz.prog "concordance/word.ends" =some cs)
  (h:DataW.trod enc Tryz.prog W 0 spare held fuel 221 cs.toList=some (Rows.laid_concordance_word_ends,p)):Df W:=by
 have each:=fun i hi=>Lib.array_elem (n:=7) Tryz.underlying221 h i hi;simp only[Vi]at each;obtain⟨_,d0,_,hd0,ht0⟩:=each 0 (by omega);obtain rfl:=Option.some.inj hd0;have g0:=Ga (i:=0) ht0;obtain⟨_,d1,_,hd1,ht1⟩:=each 1 (by omega);obtain rfl:=Option.some.inj hd1;have g1:=Ga (i:=1) ht1;obtain⟨_,d2,_,hd2,ht2⟩:=each 2 (by omega);obtain rfl:=Option.some.inj hd2;have g2:=Ga (i:=2) ht2;obtain⟨_,d3,_,hd3,ht3⟩:=each 3 (by omega);obtain rfl:=Option.some.inj hd3;have g3:=Ga (i:=3) ht3;obtain⟨_,d4,_,hd4,ht4⟩:=each 4 (by omega);obtain rfl:=Option.some.inj hd4;have g4:=Ga (i:=4) ht4;obtain⟨_,d5,_,hd5,ht5⟩:=each 5 (by omega);obtain rfl:=Option.some.inj hd5;have g5:=Ga (i:=5) ht5;obtain⟨_,d6,_,hd6,ht6⟩:=each 6 (by omega);obtain rfl:=Option.some.inj hd6;have g6:=Ga (i:=6) ht6;clear each;refine⟨?_,?_,?_,?_,?_,?_,?_,?_,?_,?_,?_,?_,?_,?_⟩
 ·rw[World.var?_cell DP hv 0,<-Array.getElem?_toList];exact g0.1
 ·rw[World.var?_cell DP hv 1,<-Array.getElem?_toList];exact g0.2
 ·rw[World.var?_cell DP hv 2,<-Array.getElem?_toList];exact g1.1
 ·rw[World.var?_cell DP hv 3,<-Array.getElem?_toList];exact g1.2
 ·rw[World.var?_cell DP hv 4,<-Array.getElem?_toList];exact g2.1
 ·rw[World.var?_cell DP hv 5,<-Array.getElem?_toList];exact g2.2
 ·rw[World.var?_cell DP hv 6,<-Array.getElem?_toList];exact g3.1
 ·rw[World.var?_cell DP hv 7,<-Array.getElem?_toList];exact g3.2
 ·rw[World.var?_cell DP hv 8,<-Array.getElem?_toList];exact g4.1
 ·rw[World.var?_cell DP hv 9,<-Array.getElem?_toList];exact g4.2
 ·rw[World.var?_cell DP hv 10,<-Array.getElem?_toList];exact g5.1
 ·rw[World.var?_cell DP hv 11,<-Array.getElem?_toList];exact g5.2
 ·rw[World.var?_cell DP hv 12,<-Array.getElem?_toList];exact g6.1
 ·rw[World.var?_cell DP hv 13,<-Array.getElem?_toList];exact g6.2
theorem LO {W:World} {L:List (String×DataW Unit)} (h:laidMet Tryz.prog L W) (hm:("concordance/word.ends",Rows.laid_concordance_word_ends)∈L):Df W:=by
 obtain⟨g,t,cs,fuel,p,hg,ht,hv,htr⟩:=Lib.laidMet.reads h hm
 obtain rfl:t=221:=by
  obtain rfl:g=0:=by rw[DP]at hg;exact(Option.some.inj hg).symm
  rw[Vw]at ht;exact(Option.some.inj ht).symm
 exact TB hv htr
end
section
open Go.ChangeShapes Go.WideShapes Go.ChangeAt Go.RowKit
open Go.ChangeMaps (open_string shut_string)
theorem V9:Tryz.prog.globalNamed "errors.errorType" =some 2:=by kernel_rfl
theorem Vz:(Tryz.prog.cutTypes.find? (·.1 == "internal/reflectlite.rtype")).map (·.2)=some 327:=by kernel_rfl
theorem UJ:((List.range 369).filter fun t=>Tryz.prog.rowNamed t [101,114,114,111,114])=[43]:=by kernel_rfl
theorem Vx:Tryz.prog.types.size=369:=by kernel_rfl
theorem TQ:Tryz.prog.cellsOf 31=8:=by kernel_rfl
theorem Pb:Tryz.prog.cellsOf 24=3:=by kernel_rfl
def Jt:List (String×DataW Unit):=[("math/bits.deBruijn32tab",Rows.laid_math_bits_deBruijn32tab),("math/bits.deBruijn64tab",Rows.laid_math_bits_deBruijn64tab),("internal/strconv.uint64pow10",Rows.laid_internal_strconv_uint64pow10),("concordance/word.ends",Rows.laid_concordance_word_ends)]
theorem Q1 {W:World} (h:laidMetH Tryz.prog Rows.storeFindsRow.laid W):Df W:=by
 have h':laidMet Tryz.prog Jt W/\handlesMet Tryz.prog [("errors.errorType",Rows.laid_errors_errorType)] W:=h;exact LO h'.1 (by simp[Jt])
theorem J2 {W:World} (h:laidMetH Tryz.prog Rows.storeFindsRow.laid W):HG W:=by
 have h':laidMet Tryz.prog Jt W/\handlesMet Tryz.prog [("errors.errorType",Rows.laid_errors_errorType)] W:=h;obtain⟨name,u,ty,e1,e2,e3,e4,e5⟩:=h'.2 _ (List.mem_singleton.2 rfl);have en:name=[101,114,114,111,114]:=(Option.some.inj e1).symm;subst en;obtain rfl:=Option.some.inj (Vz.symm.trans e2);have hm:ty∈(List.range 369).filter fun t=>Tryz.prog.rowNamed t [101,114,114,111,114]:=List.mem_filter.2 ⟨List.mem_range.2 (by rw[<-Vx];exact e3),e4⟩;rw[UJ]at hm;obtain rfl:=List.mem_singleton.1 hm;have hh:typeHandle Tryz.prog 43= .pointer (some ⟨6,43,none⟩):=by kernel_rfl
 rw[hh]at e5;simpa [HG]using World.var?_cell V9 e5 0
theorem Lj {H:Type} {enc:TypeId×Value->H} {P:Program} {w:World} {base:Nat} {spare:Nat->Bool} {held:Bool} {t:TypeId} {f0 f1 f2 f3:Field} {fuel:Nat} {cs:List Value} {x:DataW H×List MemPlace} (ht:P.underlying t=some (.struct #[f0,f1,f2,f3])) (h:DataW.trod enc P w base spare held fuel t cs=some x):
  ∃y0 y1 y2 y3 n,DataW.trod enc P w base spare held n f0.type ((cs.drop f0.offset).take (P.cellsOf f0.type))=some y0/\
   DataW.trod enc P w base spare held n f1.type ((cs.drop f1.offset).take (P.cellsOf f1.type))=some y1/\DataW.trod enc P w base spare held n f2.type ((cs.drop f2.offset).take (P.cellsOf f2.type))=some y2/\DataW.trod enc P w base spare held n f3.type ((cs.drop f3.offset).take (P.cellsOf f3.type))=some y3:=by
 obtain⟨xs,n,_,rfl,hl,hlen,hf⟩:=DataW.trod_struct ht h
 match xs,hlen with
 | [y0,y1,y2,y3],_=>exact⟨y0,y1,y2,y3,n,by simpa using hf 0,by simpa using hf 1,by simpa using hf 2,by simpa using hf 3⟩
theorem Lk {H:Type} {enc:TypeId×Value->H} {P:Program} {w:World} {base:Nat} {spare:Nat->Bool} {held:Bool} {t:TypeId} {f0 f1 f2:Field} {fuel:Nat} {cs:List Value} {x:DataW H×List MemPlace} (ht:P.underlying t=some (.struct #[f0,f1,f2])) (h:DataW.trod enc P w base spare held fuel t cs=some x):
  ∃y0 y1 y2 n,DataW.trod enc P w base spare held n f0.type ((cs.drop f0.offset).take (P.cellsOf f0.type))=some y0/\
   DataW.trod enc P w base spare held n f1.type ((cs.drop f1.offset).take (P.cellsOf f1.type))=some y1/\DataW.trod enc P w base spare held n f2.type ((cs.drop f2.offset).take (P.cellsOf f2.type))=some y2:=by
 obtain⟨xs,n,_,rfl,hl,hlen,hf⟩:=DataW.trod_struct ht h
 match xs,hlen with
 | [y0,y1,y2],_=>exact⟨y0,y1,y2,n,by simpa using hf 0,by simpa using hf 1,by simpa using hf 2⟩
structure Wg (x:Vl):Prop where
 f:CQ x
 s:x.s.size<=maxLen
theorem Uc {H:Type} {enc:TypeId×Value->H} {W:World} {spare:Nat->Bool} {held:Bool} {n:Nat} {cs:List Value} {y:DataW H×List MemPlace}
  (hl:cs.length=3) (h:DataW.trod enc Tryz.prog W 0 spare held n 24 cs=some y):
  ∃x:Vl,cs=[.int .i64 x.k,.int .i64 x.n,.string x.s]/\Wg x:=by
 obtain⟨y0,y1,y2,m,t0,t1,t2⟩:=Lk Tryz.underlying24 h
 match cs,hl with
 | [c0,c1,c2],_=>
   have e3:Tryz.prog.cellsOf 3=1:=by kernel_rfl
   have e2':Tryz.prog.cellsOf 2=1:=by kernel_rfl
   have e9:Tryz.prog.cellsOf 9=1:=by kernel_rfl
   simp only[e3,e2',e9]at t0 t1 t2;obtain⟨k,e0,_,w0⟩:=DataW.trod_int Tryz.underlying3 t0;obtain⟨i,e1,_,w1⟩:=DataW.trod_int Tryz.underlying2 t1;obtain⟨s,e2,_,w2⟩:=DataW.trod_string Tryz.underlying9 t2;simp at e0 e1 e2;subst e0 e1 e2;exact⟨⟨k,i,s⟩,rfl,⟨w0,w1⟩,w2⟩
theorem VJ {H:Type} {enc:TypeId×Value->H} {W:World} {spare:Nat->Bool} {held:Bool} {n:Nat} {cs:List Value} {y:DataW H×List MemPlace}
  (hl:cs.length=8) (h:DataW.trod enc Tryz.prog W 0 spare held n 31 cs=some y):
  ∃x:Chg,cs=chC x/\x.Ok:=by
 obtain⟨y0,y1,y2,y3,m,t0,t1,t2,t3⟩:=Lj Tryz.underlying31 h
 match cs,hl with
 | [c0,c1,c2,c3,c4,c5,c6,c7],_=>
   have e3:Tryz.prog.cellsOf 3=1:=by kernel_rfl
   simp only[e3,Pb]at t0 t1 t2 t3;obtain⟨q,e0,_,w0⟩:=DataW.trod_int Tryz.underlying3 t0;obtain⟨r,e1,_,w1⟩:=DataW.trod_int Tryz.underlying3 t1;obtain⟨a,ea,ha⟩:=Uc (by simp) t2;obtain⟨b,eb,hb⟩:=Uc (by simp) t3;simp at e0 e1 ea eb;obtain⟨rfl,rfl,rfl⟩:=ea;obtain⟨rfl,rfl,rfl⟩:=eb;subst e0 e1;have hw1:=w1;simp[Lit.wf,IntKind.min,IntKind.max,IntKind.signed,IntKind.bits]at hw1;exact⟨⟨q,r,a,b⟩,rfl,⟨by show _<=r;omega,by show r<=_;omega,ha.f,hb.f,ha.s,hb.s⟩⟩
end
end Go.Proofs.YtihnldkgeelehaaGreatDoor
