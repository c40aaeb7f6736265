/- StoreFinds: part 2. -/
import Derived.Test.YtihnldkgeelehaaGreatDoorF01
import Derived.Shelf.SlMaps.Clone
import Derived.Laws.Tables
set_option maxRecDepth 100000
set_option maxHeartbeats 4000000
namespace Go.Proofs.YtihnldkgeelehaaGreatDoor
section
open Go.RowKit Go.Maps
theorem Hn {bm n:Nat} {f:Nat->Option ByteArray} {w:World} (hS:Az bm n f w) (hn:n<1000000) (k:Nat) (hk:k<2000) (s:ByteArray) (hs:s.size=1024):
  ∃w',(Instr.mapUpdate 36 (.map (some bm)) (.int .i64 k) (.agg #[.string s])).run Tryz.prog w= .ok () w'/\Az bm (n+1) (put f k (some s)) w'/\Aa (fun b=>b=bm) w w':=by
 obtain⟨D,hD,hM⟩:=hS;obtain⟨w',h1,h2,h3⟩:=hD.store NY Tryz.underlying36 (Nat.lt_trans hn (by decide)) (NZ k hk) (Lp s);exact⟨w',h1,⟨_,h2,hM.put k hk s hs⟩,Aa.of_grown h3.grown rfl⟩
def Pg.write (p:Pg) (k:Nat) (s:ByteArray):Pg:={p with chg:=put p.chg k (some s)}
def Pg.free (p:Pg) (k:Nat):Pg:={p with used:=fun i=>if i=k then false else p.used i,chg:=put p.chg k none}
theorem Bb.chg {bp bd bm:Nat} {p:Pg} {w:World} (h:Bb bp bd bm p w) (f:Nat->Option ByteArray):Bb bp bd bm {p with chg:=f} w:=⟨fun k hk=>h.cell k hk,h.free⟩
section
variable {bp bd bm n:Nat} {p:Pg} {s:St} {w:World}
set_option maxHeartbeats 400000
theorem Nv (h:Am bp bd bm n p w) (hn:n<1000000) (hd:p.down=false) (j:Nat) (hj:j<2000) (hu:p.used j=true) (t:ByteArray) (ht:t.size=1024):
  Calls Tryz.prog 238 #[.pointer (some ⟨bp,0,none⟩),.int .i64 j,.string t] w fun e w'=>e= .returned .nilIface/\Am bp bd bm (n+1) (p.write j t) w'/\Aa (fun b=>b=bm) w w':=by
 have HP:Hid (Am bp bd bm n p w):=h;have q1:=h.cells.cell 4017 (by omega);rw[DV]at q1;have h1:(t.size:Int)=1024:=by omega
 have hne:=h.ne;clear h;go_enter Tryz.func238,Tryz.ntmps238;go_wp2_with fail;refine(GS HP.out.cells j).mono ?_;rintro _ wa ⟨E,rfl,hE,hw⟩;subst wa;rw[LR hd hj hu]at hE;obtain rfl:E= .nilIface:=hE;go_wp2_with fail;have HK:Hid (∀wx,Aa (fun b=>b=bm) w wx->wx.cell? ⟨bp,4017,none⟩=some (.map (some bm))):=fun wx hx=>by rw[hx.cell HP.out.lt (fun e=>hne e.symm)];exact q1
 have HB0:Hid (Aa (fun b=>b=bm) w w.drew):=(Aa.refl _ w).drew
 go_region_held3 (fun wx=>wx.cell? ⟨bp,4017,none⟩=some (.map (some bm))) (first|exact HK.out _ HO2.out|exact HK.out _ HO.out|exact HK.out _ HB0.out) (first|(go_at_call 118;refine(Db t _ (by omega)).mono ?_;rintro _ wy ⟨rfl,hb⟩;have HO:Hid (Aa (fun b=>b=bm) w wy):=(Aa.of_below ((Below.refl _ w).drew.trans hb));obtain⟨w2,hst,hs2,ho2⟩:=Hn (HP.out.own.block (Below.block ((Below.refl _ w).drew.trans hb) _ HP.out.own.lt)) hn j hj t ht;have HO2:Hid (Aa (fun b=>b=bm) w w2):=HO.out.trans ho2 (fun _ h=> .inl h);have HS2:Hid _:=hs2;clear hs2 ho2 hb))
 go_wp2;go_ret;exact⟨rfl,⟨(HP.out.cells.block (HO2.out.block bp HP.out.lt (fun e=>hne e.symm))).chg _,HS2.out⟩,HO2.out⟩
theorem Bb.setUsed (h:Bb bp bd bm p w) (j:Nat) (hj:j<2000) (b:Bool):Bb bp bd bm {p with used:=fun i=>if i=j then b else p.used i} (w.setCell ⟨bp,2001+j,none⟩ (.bool b)):=by
 refine(h.row.set (2001+j) (.bool b) (by omega)).cells fun k hk=> ?_
 by_cases e:k=2001+j
 ·subst e
  rw[GV,Cg _ _ _ hj];simp
 ·rw[AK _ _ _ (by simp;omega)]
  by_cases e2:2001<=k/\k<4001
  ·obtain⟨m,rfl⟩:∃m,k=2001+m:=⟨k-2001,by omega⟩
   rw[Cg _ _ _ (by omega),Cg _ _ _ (by omega)];simp only;rw[if_neg (by omega)]
  ·unfold BL
   by_cases a0:k=0
   ·rw[if_pos a0,if_pos a0]
   rw[if_neg a0,if_neg a0]
   by_cases a1:k<2001
   ·rw[if_pos a1,if_pos a1]
   rw[if_neg a1,if_neg a1,if_neg (show ¬k<4001 by omega),if_neg (show ¬k<4001 by omega)]
theorem Qr (h:Am bp bd bm n p w) (hd:p.down=false) (j:Nat) (hj:j<2000) (hu:p.used j=true):
  Calls Tryz.prog 236 #[.pointer (some ⟨bp,0,none⟩),.int .i64 j] w fun e w'=>e= .returned .nilIface/\Am bp bd bm n (p.free j) w'/\Aa (fun b=>b=bp\/b=bm) w w':=by
 have HP:Hid (Am bp bd bm n p w):=h;have h1:(j:Int)<2000:=by omega
 have q2:=h.cells.cell (2001+j) (by omega);have f2:=h.cells.free (2001+j);have hC:=h.cells.setUsed j hj false;have q1:=hC.cell 4017 (by omega);rw[DV]at q1;have hne:=h.ne;have HS:Hid (Az bm n p.chg (w.setCell ⟨bp,2001+j,none⟩ (.bool false))):=h.own.only (Aa.set bp _ _ w) hne;have HC:Hid _:=hC;clear h hC;go_enter Tryz.func236,Tryz.ntmps236;go_wp2_with fail;refine(GS HP.out.cells j).mono ?_;rintro _ wa ⟨E,rfl,hE,hw⟩;subst wa;rw[LR hd hj hu]at hE;obtain rfl:E= .nilIface:=hE
 go_wp2_with (refine Q6 _ rfl _ _ rfl HS.out j hj rfl rfl ?_;intro w2 hs2 ho2;have HS2:Hid _:=hs2;have HO2:Hid _:=ho2;clear hs2 ho2)
 go_ret;refine⟨rfl,⟨(HC.out.block (HO2.out.block bp (by rw[World.size_setCell];exact HP.out.lt) (fun e=>hne e.symm))).chg _,HS2.out⟩,((Aa.set bp _ _ w).mono (fun i hi=> .inl hi)).trans HO2.out (fun i hi=> .inl (.inr hi))⟩
end
def TY (f:Nat->Bool) (m:Nat) (r:Int):Prop:=(r= -1/\∀j,j<m->f j=true)\/∃i:Nat,r=i/\i<m/\f i=false/\∀j,j<i->f j=true
set_option maxHeartbeats 400000
theorem Qk (B o m c:Nat) (hm:m<1000000) (f:Nat->Bool) (w:World) (hc:∀j,j<m->w.cell? ⟨B,o+j,none⟩=some (.bool (f j))):
  Calls Tryz.prog 254 #[.slice (some ⟨B,o,none⟩) m c,.bool false] w fun e w'=>(∃r,e= .returned (.int .i64 r)/\TY f m r)/\w'=w:=by
 go_enter Tryz.func254,Tryz.ntmps254;go_wp2_with fail
 go_loop [8] (fun i=>∃k:Nat,k<=m/\i= .int .i64 k/\Hid (∀j,j<k->f j=true)) (fun i=>m-(intOf i).toNat)
 case atStart=>exact⟨0,Nat.zero_le _,rfl,fun j hj=>by omega⟩
 case round=>
  obtain⟨k,hk,rfl,HF⟩:=hrel
  by_cases hlt:k<m
  ·have h1:(k:Int)<(m:Int):=by omega
   have q:=hc k hlt
   cases hf:f k
   ·rw[hf]at q
    go_wp2;go_ret;exact⟨⟨_,rfl,.inr ⟨k,rfl,hlt,hf,HF.out⟩⟩,rfl⟩
   ·rw[hf]at q
    go_wp2
    go_round
    case rel=>exact⟨k+1,by omega,by go_num,fun j hj=>by
     by_cases e:j=k
     ·rw[e];exact hf
     ·exact HF.out j (by omega)⟩
    case measure=>simp[intOf];omega
  ·have h1:¬(k:Int)<(m:Int):=by omega
   go_wp2;go_ret;exact⟨⟨_,rfl,.inl ⟨rfl,fun j hj=>HF.out j (by omega)⟩⟩,rfl⟩
def Pg.alloc (p:Pg) (k:Nat):Pg:={p with used:=fun i=>if i=k then true else p.used i,chg:=put p.chg k (some CR)}
section
variable {bp bd bm n:Nat} {p:Pg} {s:St} {w:World}
theorem O3 (h:Am bp bd bm n p w) (hn:n<1000000) (hd:p.down=false) (k:Nat) (h0:0<k) (hk:k<2000) (hu:p.used k=false) (hl:∀j,0<j->j<k->p.used j=true):
  Calls Tryz.prog 235 #[.pointer (some ⟨bp,0,none⟩)] w fun e w'=>e= .returned (.tuple #[.int .i64 k,.nilIface])/\Am bp bd bm (n+1) (p.alloc k) w'/\Aa (fun b=>b=bp\/b=bm) w w':=by
 have HP:Hid (Am bp bd bm n p w):=h;have q:=h.cells.cell 4019 (by omega);rw[Ds,hd]at q
 have HC:Hid (∀j,j<1999->w.cell? ⟨bp,2002+j,none⟩=some (.bool (p.used (j+1)))):=fun j hj=>by
  rw[show 2002+j=2001+(j+1) by omega,h.cells.cell _ (by omega),Cg _ _ _ (by omega)]
 clear h;go_enter Tryz.func235,Tryz.ntmps235;go_wp2_with fail;obtain⟨m,rfl⟩:∃m,k=m+1:=⟨k-1,by omega⟩;refine(Qk bp 2002 1999 1999 (by omega) (fun j=>p.used (j+1)) w HC.out).mono ?_;rintro _ wa ⟨⟨r,rfl,hF⟩,hw⟩;subst wa
 have hr:r=(m:Int):=by
  rcases hF with⟨_,h1⟩|⟨i,rfl,h1,h2,h3⟩
  ·exact absurd (show p.used (m+1)=true from h1 m (by omega)) (by rw[hu];decide)
  ·by_cases e1:i<m
   ·exact absurd (show p.used (i+1)=false from h2) (by rw[hl (i+1) (by omega) (by omega)];decide)
   ·by_cases e2:m<i
    ·exact absurd (show p.used (m+1)=true from h3 m e2) (by rw[hu];decide)
    ·omega
 subst hr;clear hF HC;have h1:1+(m:Int)<2000:=by omega
 have e0:((1+(m:Int)) == 0)=false:=by simp;omega
 have q2:=HP.out.cells.cell (2001+(1+m)) (by omega);have f2:=HP.out.cells.free (2001+(1+m));have hC:=HP.out.cells.setUsed (1+m) (by omega) true;have q1:=hC.cell 4017 (by omega);rw[DV]at q1;have hne:=HP.out.ne;have HC:Hid _:=hC;have HS:Hid (Az bm n p.chg (w.setCell ⟨bp,2001+(1+m),none⟩ (.bool true))):=HP.out.own.only (Aa.set bp _ _ w) hne;clear hC;go_wp2_with fail;obtain⟨wb,hwb⟩:∃wb,w.setCell ⟨bp,2001+(1+m),none⟩ (.bool true)=wb:=⟨_,rfl⟩;have ho1:Aa (fun b=>b=bp) w wb:=by rw[<-hwb];exact Aa.set bp _ _ w
 rw[hwb]at q1 HC HS;rw[hwb];have hbp:bp<wb.heap.size:=HC.out.lt;have HK:Hid (∀wx,Aa (fun b=>b=bm) wb wx->wx.cell? ⟨bp,4017,none⟩=some (.map (some bm))):=fun wx hx=>by rw[hx.cell hbp (fun e=>hne e.symm)];exact q1
 have HB0:Hid (Aa (fun b=>b=bm) wb wb.drew):=(Aa.refl _ wb).drew;have HO1:Hid _:=ho1;clear ho1 q2 f2 hwb q
 go_region_held3 (fun wx=>wx.cell? ⟨bp,4017,none⟩=some (.map (some bm))) (first|exact HK.out _ HO2.out|exact HK.out _ HO.out|exact HK.out _ HB0.out) (first|(go_at_call 197;refine(Kj _).mono ?_;rintro _ wy ⟨rfl,hb⟩;have HO:Hid (Aa (fun b=>b=bm) wb wy):=(Aa.of_below ((Below.refl _ wb).drew.trans hb));obtain⟨w2,hst,hs2,ho2⟩:=Hn (HS.out.block (Below.block ((Below.refl _ wb).drew.trans hb) _ HS.out.lt)) hn (1+m) (by omega) CR FG;rw[show((1+m:Nat):Int)=1+(m:Int) by omega]at hst;have HO2:Hid (Aa (fun b=>b=bm) wb w2):=HO.out.trans ho2 (fun _ h=> .inl h);have HS2:Hid _:=hs2;clear hs2 ho2 hb))
 go_wp2;go_ret2;refine⟨by rw[show((m+1:Nat):Int)=1+(m:Int) by omega];rfl,⟨?_,?_⟩,(HO1.out.mono (fun i hi=> .inl hi)).trans HO2.out (fun i hi=> .inl (.inr hi))⟩
 ·have h9:=(HC.out.block (HO2.out.block bp hbp (fun e=>hne e.symm))).chg (put p.chg (1+m) (some CR))
  rw[Nat.add_comm 1 m]at h9;exact h9
 ·have h9:=HS2.out
  rw[Nat.add_comm 1 m]at h9;exact h9
end
def A1 (f:Nat->Bool):Nat->Nat
 |0=>0
 |k+1=>A1 f k+(if f k then 1 else 0)
section
variable {bp bd bm n:Nat} {p:Pg} {s:St} {w:World}
end
end
section
open Go.RowKit Go.Maps Go.Shelf
section
variable {bp bd bm n:Nat} {p:Pg} {s:St} {w:World} {f:Nat->Option ByteArray}
set_option maxHeartbeats 400000
theorem JV (h:Az bm n f w):Calls Tryz.prog 60 #[.map (some bm)] w fun e w'=>e= .returned (.map (some w.heap.size))/\Az w.heap.size n f w'/\Below w.heap.size w w'/\w'.heap.size=w.heap.size+1:=by
 obtain⟨D,⟨es,clock,hb,F,hs,hD⟩,hM⟩:=h;have HR:Hid (Az w.heap.size n f (w.alloc (.map es clock))):=⟨D,⟨es,clock,(MapKept.heap_alloc w _).1,F,hs,hD⟩,hM⟩;have hq:=fun w=>run_eql_map_nil_sl (P:=Tryz.prog) w 36 _ _ (some bm) Tryz.underlying36;clear hM hD hs F;go_enter Tryz.func60,Tryz.ntmps60;go_wp2;rw[run_callFunc_extern Tryz.func114 (by kernel_rfl) (by kernel_rfl) (by kernel_rfl) (e:=Extern.MapsClone.clone) (by kernel_rfl),run_maps_clone_sl w 36 hb];simp only[Result.andThen];rw[Oper.upon_value];go_wp2;rw[run_typeAssert_map_sl _ 36 20 _ _ _ Tryz.underlying36];simp only[Result.andThen];rw[Oper.upon_value];go_wp2;go_ret;exact⟨rfl,HR.out,(Below.refl _ w).alloc (Nat.le_refl _) _,World.size_alloc _ _⟩
end
theorem IP:(Tryz.prog.info? 38).map (·.size)=some 2017:=by kernel_rfl
theorem SM:Tryz.zeroCells38.size=2017:=by kernel_rfl
theorem P3 (used:Nat->Bool) (rp rn:Nat->Int) (m m':Nat) {k:Nat} (hk:k<2016):(AD used rp rn m)[k]? =(AD used rp rn m')[k]? :=by
 by_cases h:k<2000
 ·rw[EX _ _ _ _ h,EX _ _ _ _ h]
 ·obtain⟨j,rfl⟩:∃j,k=2000+j:=⟨k-2000,by omega⟩
  rw[EY _ _ _ _ (by omega),EY _ _ _ _ (by omega)]
structure Two (B:Nat) (L:List Value) (w wx:World):Prop where
 first:wx.rangeAt B 0 L
 free:∀k,wx.frozen? ⟨B,k,none⟩=false
 second:wx.there (B+1) 0 2017
 below:Below B w wx
 size:B+2<=wx.heap.size
theorem Two.start (w:World) (L:List Value) (Z:Array Value) (hZ:Z.size=2017):Two w.heap.size L w ((w.alloc (.cells L.toArray 38)).alloc (.cells Z 38)):=by
 have hn1:(w.alloc (.cells L.toArray 38)).heap[w.heap.size]? =some (.cells L.toArray 38):=heap_alloc_new w _;have hs1:(w.alloc (.cells L.toArray 38)).heap.size=w.heap.size+1:=World.size_alloc _ _;have hn2:((w.alloc (.cells L.toArray 38)).alloc (.cells Z 38)).heap[w.heap.size+1]? =some (.cells Z 38):=by rw[<-hs1];exact heap_alloc_new _ _
 have b2:Below (w.heap.size+1) (w.alloc (.cells L.toArray 38)) ((w.alloc (.cells L.toArray 38)).alloc (.cells Z 38)):=by rw[<-hs1];exact(Below.refl _ _).alloc (Nat.le_refl _) _
 have hn1':((w.alloc (.cells L.toArray 38)).alloc (.cells Z 38)).heap[w.heap.size]? =some (.cells L.toArray 38):=by rw[b2.block _ (by omega)];exact hn1
 refine⟨fun j v hj=> ?_,fun k=>by simp only[World.frozen?,hn1'];simp,fun j hj=>⟨?_,by simp only[World.frozen?,hn2];simp⟩,((Below.refl _ _).alloc (Nat.le_refl _) _).trans (b2.mono (by omega)),by rw[World.size_alloc,hs1];omega⟩
 ·rw[Nat.zero_add,cell_of_row _ _ _ _ _ _ hn1']
  simpa using hj
 ·rw[Nat.zero_add,cell_of_row _ _ _ _ _ _ hn2]
  have hl:j<Z.size:=by rw[hZ];exact hj
  simp[hl]
theorem Two.later {B:Nat} {L:List Value} {w wx wy:World} (h:Two B L w wx) (hb:Below wx.heap.size wx wy):Two B L w wy:=by
 have hs:=h.size;refine⟨fun j v hj=> ?_,fun k=> ?_,fun j hj=>⟨?_,?_⟩,h.below.trans (hb.mono (by omega)),Nat.le_trans h.size hb.size⟩
 ·rw[hb.cell (p:=⟨B,0+j,none⟩) (by show B<_;omega)];exact h.first j v hj
 ·rw[hb.frozen (p:=⟨B,k,none⟩) (by show B<_;omega)];exact h.free k
 ·rw[hb.cell (p:=⟨B+1,0+j,none⟩) (by show B+1<_;omega)];exact(h.second j hj).1
 ·rw[hb.frozen (p:=⟨B+1,0+j,none⟩) (by show B+1<_;omega)];exact(h.second j hj).2
section
variable {bp bd bm n:Nat} {p:Pg} {s:St} {w:World} {f:Nat->Option ByteArray}
set_option maxHeartbeats 400000
theorem Ig (h:Az bm n f w) (used:Nat->Bool) (rp rn:Nat->Int):
  Calls Tryz.prog 23 #[.agg (AD used rp rn bm).toArray] w fun e w'=>∃bm',e= .returned (.agg (AD used rp rn bm').toArray)/\w.heap.size<=bm'/\Az bm' n f w'/\Below w.heap.size w w':=by
 have hz:=Tryz.zeroValue38;have HS:Hid (Az bm n f w):=h;have hlt:=h.lt;clear h;have T0:=Two.start w (AD used rp rn bm) Tryz.zeroCells38 SM;have q0:=T0.first 2016 _ (E9 used rp rn bm);rw[Nat.zero_add]at q0;have HT0:Hid _:=T0;have HS0:Hid (Az bm n f ((w.alloc (.cells (AD used rp rn bm).toArray 38)).alloc (.cells Tryz.zeroCells38 38))):=HS.out.block (T0.below.block _ hlt);clear T0;obtain⟨L,hL⟩:∃L,AD used rp rn bm=L:=⟨_,rfl⟩;rw[hL]at q0 HT0 HS0;rw[hL];go_enter Tryz.func23,Tryz.ntmps23;go_wp2_with fail;clear hz;refine(JV HS0.out).mono ?_;rintro _ w1 ⟨rfl,hs1,hb1,hz1⟩;obtain⟨w0,hw0⟩:∃w0,(w.alloc (.cells L.toArray 38)).alloc (.cells Tryz.zeroCells38 38)=w0:=⟨_,rfl⟩;rw[hw0]at HT0 hs1 hb1 hz1;rw[hw0];have T1:=HT0.out.later hb1;clear hw0 HS0 q0;have q1:=T1.first 2016 (.map (some bm)) (by rw[<-hL];exact E9 used rp rn bm);rw[Nat.zero_add]at q1;have f1:=T1.free 2016;obtain⟨M,hM⟩:∃M,AD used rp rn w0.heap.size=M:=⟨_,rfl⟩;have lM:M.length=2017:=by rw[<-hM,Bj]
 have sM:(Tryz.prog.info? 38).map (·.size)=some M.length:=by rw[lM];exact IP
 have sA:(Tryz.prog.info? 38).map (·.size)=some M.toArray.size:=by rw[List.size_toArray,lM];exact IP
 have oM:=all_oneCell_toArray (show ∀v∈M,v.oneCell'=true by rw[<-hM];exact FI _ _ _ _);have hs0:=HT0.out.size;obtain⟨w2,hw2⟩:∃w2,w1.setCell ⟨w.heap.size,2016,none⟩ (.map (some w0.heap.size))=w2:=⟨_,rfl⟩
 have R2:Hid (w2.rangeAt w.heap.size 0 M):=fun j v hj=>by
  have hl:=(List.getElem?_eq_some_iff.1 hj).1;rw[Nat.zero_add,<-hw2]
  by_cases e:j=2016
  ·subst e
   rw[World.cell?_setCell_same _ _ _ q1,<-hM,E9]at *;exact hj
  ·rw[World.cell?_setCell_other _ _ _ _ (fun e'=>e (by injection e' with e1 e2;omega))]
   have:=T1.first j v (by rw[<-hL,P3 used rp rn bm w0.heap.size (by omega),hM];exact hj);rw[Nat.zero_add]at this;exact this
 have T2:Hid (w2.there (w.heap.size+1) 0 M.toArray.size):=fun j hj=>by
  rw[List.size_toArray,lM]at hj;rw[<-hw2,World.frozen?_setCell,World.cell?_setCell_other _ _ _ _ (fun e'=>by injection e' with e1 e2;omega)];exact T1.second j hj
 have B2:Hid (Below w.heap.size w w2):=by rw[<-hw2];exact T1.below.setCell (p:=⟨w.heap.size,2016,none⟩) (Nat.le_refl _) _
 have S2:Hid (Az w0.heap.size n f w2):=by rw[<-hw2];exact hs1.only (Aa.set w.heap.size 2016 _ w1) (fun e=>by omega)
 have l3:=run_loadVar_mid (P:=Tryz.prog) (w2.setCells (w.heap.size+1) 0 M) (w.heap.size+1) 0 38 M _ (World.rangeAt_setCells_same _ _ _ _ (by have:=T2.out;rw[List.size_toArray]at this;exact this)) Tryz.underlying38 rfl sM;have HM:Hid _:=hM;clear hM hs1 hb1 hz1 HT0 T1
 go_wp2_with (first|(refine wpList_load_mid rfl 38 _ rfl w.heap.size 0 rfl M _ R2.out Tryz.underlying38 rfl sM ?_)|(refine wpList_store_mid rfl 38 _ _ rfl (w.heap.size+1) 0 M.toArray rfl rfl T2.out sA oM ?_)|(rw[hw2]))
 exact bodyPost_ret (v:= .agg M.toArray) (Ax Tryz.results23 _ _ _ rfl l3) rfl ⟨w0.heap.size,by rw[HM.out],by omega,S2.out.only (Aa.setCells (w.heap.size+1) M 0 w2) (fun e=>by omega),Below.setCells' (by omega) _ _ _ B2.out⟩
end
def Hv (used:Nat->Bool) (rp rn:Nat->Int) (m:Nat) (c:Int):List Value:=AD used rp rn m++[.int .i64 c]
theorem PZ (used:Nat->Bool) (rp rn:Nat->Int) (m:Nat) (c:Int):(Hv used rp rn m c).length=2018:=by rw[Hv,List.length_append,Bj];rfl
theorem KP (used:Nat->Bool) (rp rn:Nat->Int) (m:Nat) (c:Int):∀v∈Hv used rp rn m c,v.oneCell'=true:=fun v hv=>by
 rcases List.mem_append.1 hv with h|h
 ·exact FI _ _ _ _ v h
 ·rw[List.mem_singleton.1 h];rfl
theorem Rh:(Tryz.prog.info? 40).map (·.size)=some 2018:=by kernel_rfl
theorem O6:Tryz.zeroCells40.size=2018:=by kernel_rfl
theorem J3 (off:Nat):∀(vs:List Value) (n:Nat) (A:Array Value) (k:Nat),off+n+vs.length<=A.size->
  ((vs.zipIdx n).foldl (fun cs x=>cs.setIfInBounds (off+x.2) x.1) A)[k]? =(if off+n<=k/\k<off+n+vs.length then vs[k-(off+n)]? else A[k]?)/\((vs.zipIdx n).foldl (fun cs x=>cs.setIfInBounds (off+x.2) x.1) A).size=A.size
 | [],n,A,k,_=>by simp;omega
 |v::r,n,A,k,h=>by
  rw[List.zipIdx_cons,List.foldl_cons];have h1:off+(n+1)+r.length<=(A.setIfInBounds (off+n) v).size:=by rw[Array.size_setIfInBounds];simp only[List.length_cons]at h;omega
  obtain⟨e1,e2⟩:=J3 off r (n+1) (A.setIfInBounds (off+n) v) k h1;refine⟨?_,by rw[e2,Array.size_setIfInBounds]⟩;rw[e1];simp only[List.length_cons]at h ⊢
  by_cases c1:off+(n+1)<=k/\k<off+(n+1)+r.length
  ·rw[if_pos c1,if_pos (by omega),show k-(off+n)=(k-(off+(n+1)))+1 by omega,List.getElem?_cons_succ]
  ·rw[if_neg c1]
   by_cases c2:k=off+n
   ·subst c2
    rw[if_pos (by omega),Nat.sub_self,List.getElem?_cons_zero,Array.getElem?_setIfInBounds_self_of_lt (by omega)]
   ·rw[if_neg (by omega),Array.getElem?_setIfInBounds_ne (by omega)]
theorem Q0 (S:List Value) (off:Nat) (A:Array Value):S.toArray.zipIdx.foldl (fun cs (c,j)=>cs.setIfInBounds (off+j) c) A=(S.zipIdx 0).foldl (fun cs x=>cs.setIfInBounds (off+x.2) x.1) A:=by
 rw[<-Array.foldl_toList,Array.toList_zipIdx]
theorem KV (place:Nat->Option (Nat×Nat)) (A:Array Value) (i:Nat) (v:Value) (rest:List (Nat×Value)) (vs:List Value) (off size:Nat) (hp:place i=some (off,size)) (hv:v.cells=vs.toArray) (hs:vs.length=size) (hA:off+size<=A.size):
  Instr.fill place A ((i,v)::rest)=Instr.fill place ((vs.zipIdx 0).foldl (fun cs x=>cs.setIfInBounds (off+x.2) x.1) A) rest:=by
 rw[Instr.fill,hp,hv];simp only;rw[if_neg (by simp[hs];omega),Q0]
theorem UT:(Tryz.prog.info? 40).bind (·.zero)=some (.agg Tryz.zeroCells40):=by kernel_rfl
theorem T3:(Tryz.prog.info? 38).map (·.size)=some 2017:=by kernel_rfl
theorem UV:(Tryz.prog.info? 3).map (·.size)=some 1:=by kernel_rfl
theorem QH (A:Array Value):(Value.agg A).cells=A:=rfl
theorem TU (S:List Value) (hS:S.length=2017) (c:Int):Tryz.prog.built 40 [(0,Value.agg S.toArray),(1,Value.int .i64 c)]=some (S++[Value.int .i64 c]).toArray:=by
 have h48:=UT;have h46:=T3;have h3:=UV;have hZ:=O6;unfold Program.built;rw[Tryz.underlying40];generalize Tryz.zeroCells40=Z at *
 cases e48:Tryz.prog.info? 40 with
 |none=>rw[e48]at h48;cases h48
 |some it=>
  rw[e48]at h48;have hz:it.zero=some (.agg Z):=h48
  cases e46:Tryz.prog.info? 38 with
  |none=>rw[e46]at h46;cases h46
  |some i46=>
   rw[e46]at h46;have s46:i46.size=2017:=Option.some.inj h46
   cases e3:Tryz.prog.info? 3 with
   |none=>rw[e3]at h3;cases h3
   |some i3=>
    rw[e3]at h3;have s3:i3.size=1:=Option.some.inj h3;simp only[hz,List.mapM_cons,List.mapM_nil,e46,e3,s46,s3,Option.map_some,Option.bind_eq_bind,Option.bind_some,Option.pure_def,QH];rw[KV _ Z 0 _ _ S 0 2017 rfl rfl hS (by omega)];have f1:=fun k=>J3 0 S 0 Z k (by omega);generalize (S.zipIdx 0).foldl (fun cs x=>cs.setIfInBounds (0+x.2) x.1) Z=Y at *;have sY:Y.size=2018:=by rw[(f1 0).2,hZ]
    rw[KV _ Y 1 _ _ [.int .i64 c] 2017 1 rfl rfl rfl (by omega)];have f2:=fun k=>J3 2017 [Value.int .i64 c] 0 Y k (by simp;omega);generalize ([Value.int .i64 c].zipIdx 0).foldl (fun cs x=>cs.setIfInBounds (2017+x.2) x.1) Y=X at *;have sX:X.size=2018:=by rw[(f2 0).2,sY]
    show some X=_;congr 1;apply Array.ext_getElem?;intro k;have eR:(S++[Value.int .i64 c]).toArray[k]? =(S++[Value.int .i64 c])[k]? :=by simp only[List.getElem?_toArray]
    rw[(f2 k).1,eR];simp only[List.length_cons,List.length_nil]
    by_cases c1:k<2017
    ·rw[if_neg (by omega),(f1 k).1,if_pos (by omega),List.getElem?_append_left (by omega)]
     simp
    ·by_cases c2:k=2017
     ·subst c2
      rw[if_pos (by omega),List.getElem?_append_right (by omega),hS]
     ·rw[if_neg (by omega),(f1 k).1,if_neg (by omega),List.getElem?_append_right (by omega),hS,Array.getElem?_eq_none (by omega),List.getElem?_eq_none (by simp;omega)]
section
variable {bp bd bm n:Nat} {p:Pg} {s:St} {w:World} {f:Nat->Option ByteArray}
set_option maxHeartbeats 400000
theorem RF (h:Am bp bd bm n p w):Calls Tryz.prog 6 #[.pointer (some ⟨bp,0,none⟩)] w fun e w'=>∃bm',e= .returned (.agg (Hv p.used p.rp p.rn bm' p.commits).toArray)/\w.heap.size<=bm'/\Az bm' n p.chg w'/\Below w.heap.size w w':=by
 have hz:=Tryz.zeroValue40;have HP:Hid (Am bp bd bm n p w):=h;clear h;go_enter Tryz.func6,Tryz.ntmps6;go_wp2_with fail;clear hz;obtain⟨L,hL⟩:∃L,AD p.used p.rp p.rn bm=L:=⟨_,rfl⟩;have sL:(Tryz.prog.info? 38).map (·.size)=some L.length:=by rw[<-hL,Bj];exact IP
 have HK:Hid (∀wx,Below w.heap.size w wx->wx.rangeAt bp 2001 L/\wx.cell? ⟨bp,4018,none⟩=some (.int .i64 p.commits)):=fun wx hx=>by
  have hp:=HP.out.below hx;refine⟨by rw[<-hL];exact hp.cells.state,?_⟩;have:=hp.cells.cell 4018 (by omega);rw[Fq]at this;exact this
 have HB0:Hid (Below w.heap.size w (w.alloc (.cells Tryz.zeroCells40 40)).drew):=((Below.refl _ w).alloc (Nat.le_refl _) _).drew;have hlt:=HP.out.mlt;refine wp_region_held_drew (S:=fun wx=>wx.rangeAt bp 2001 L/\wx.cell? ⟨bp,4018,none⟩=some (.int .i64 p.commits)) (by kernel_rfl) (HK.out _ HB0.out) ?_;intro g0;refine wpAnyH_take (i:=0) (v:= .pointer (some ⟨bp,0,none⟩)) rfl (by kernel_rfl) (by kernel_rfl) (by kernel_rfl) (fun _ _ _ h=>h) (.inl ⟨by rfl,fun wx _=>by go_simp⟩) g0 ?_;simp only[Act.put,List.setIfInBounds_toArray];refine wpAnyH_take (i:=1) (v:= .pointer (some ⟨bp,0,none⟩)) rfl (by kernel_rfl) (by kernel_rfl) (by kernel_rfl) (fun _ _ _ h=>h) (.inl ⟨by rfl,fun wx _=>by go_simp⟩) g0 ?_;simp only[Act.put];refine wpAnyH_take (i:=2) (v:= .pointer (some ⟨bp,2001,none⟩)) rfl (by kernel_rfl) (by kernel_rfl) (by kernel_rfl) (fun _ _ _ h=>h) (.inl ⟨by rfl,fun wx _=>by go_simp⟩) g0 ?_;simp only[Act.put];refine wpAnyH_take (i:=3) (v:= .agg L.toArray) rfl (by kernel_rfl) (by kernel_rfl) (by kernel_rfl) (fun _ _ _ h=>h) (yieldsIf_load_mid (by rfl) 38 _ rfl _ 2001 rfl L _ (fun wx h=>h.1) Tryz.underlying38 rfl sL) g0 ?_;simp only[Act.put];refine wpAnyH_take (i:=5) (v:= .pointer (some ⟨bp,0,none⟩)) rfl (by kernel_rfl) (by kernel_rfl) (by kernel_rfl) (fun _ _ _ h=>h) (.inl ⟨by rfl,fun wx _=>by go_simp⟩) g0 ?_;simp only[Act.put];refine wpAnyH_take (i:=6) (v:= .pointer (some ⟨bp,0,none⟩)) rfl (by kernel_rfl) (by kernel_rfl) (by kernel_rfl) (fun _ _ _ h=>h) (.inl ⟨by rfl,fun wx _=>by go_simp⟩) g0 ?_;simp only[Act.put];refine wpAnyH_take (i:=7) (v:= .pointer (some ⟨bp,4018,none⟩)) rfl (by kernel_rfl) (by kernel_rfl) (by kernel_rfl) (fun _ _ _ h=>h) (.inl ⟨by rfl,fun wx _=>by go_simp⟩) g0 ?_;simp only[Act.put];refine wpAnyH_take (i:=8) (v:= .int .i64 p.commits) rfl (by kernel_rfl) (by kernel_rfl) (by kernel_rfl) (fun _ _ _ h=>h) (.inl ⟨by rfl,fun wx h=>by have h8:=h.2;go_simp⟩) g0 ?_;simp only[Act.put];refine wpAnyH_ready (rs:=[4]) (by kernel_rfl) (by decide) (AllReadyH.cons rfl (fun K hK=> ?_) AllReadyH.nil);rw[if_pos (by rfl)]
 go_simp
 rw[<-hL];refine(Ig (HP.out.own.block (HB0.out.block _ hlt)) _ _ _).mono ?_;rintro _ wy ⟨bm',rfl,hbm,hs,hb⟩;have HB:Hid (Below w.heap.size w wy):=HB0.out.trans (hb.mono HB0.out.size);refine hK.out _ _ (HK.out _ HB.out) (fun g1=> ?_);clear hK K;obtain⟨M,hM⟩:∃M,Hv p.used p.rp p.rn bm' p.commits=M:=⟨_,rfl⟩;have hbu:Tryz.prog.built 40 [(0,Value.agg (AD p.used p.rp p.rn bm').toArray),(1,Value.int .i64 p.commits)]=some M.toArray:=by rw[<-hM];exact TU _ (Bj _ _ _ _) _
 have hru:=fun wx=>run_build (P:=Tryz.prog) wx 40 #[(0,Value.agg (AD p.used p.rp p.rn bm').toArray),(1,Value.int .i64 p.commits)] M.toArray hbu
 refine wpAnyH_take (i:=9) (v:= .agg M.toArray) rfl (by kernel_rfl) (by kernel_rfl) (by kernel_rfl) (fun _ _ _ h=>h) (.inl ⟨by rfl,fun wx _=>by
  have h9:=hru wx;simp[execOp];refine(congrArg (fun r=>Result.andThen r _) h9).trans ?_;rfl⟩) g1 ?_
 simp only[Act.put];have lM:M.length=2018:=by rw[<-hM,PZ]
 have sM:(Tryz.prog.info? 40).map (·.size)=some M.length:=by rw[lM];exact Rh
 have oM:=all_oneCell_toArray (show ∀v∈M,v.oneCell'=true by rw[<-hM];exact KP _ _ _ _ _);have hn0:(w.alloc (.cells Tryz.zeroCells40 40)).drew.heap[w.heap.size]? =some (.cells Tryz.zeroCells40 40):=heap_alloc_new w _
 have hny:wy.heap[w.heap.size]? =some (.cells Tryz.zeroCells40 40):=by
  rw[hb.block _ (by show w.heap.size<(w.alloc (.cells Tryz.zeroCells40 40)).heap.size;rw[World.size_alloc];omega)];exact hn0
 have hty:wy.there w.heap.size 0 M.toArray.size:=fun j hj=>by
  rw[List.size_toArray,lM]at hj;refine⟨?_,by simp only[World.frozen?,hny];simp⟩;rw[Nat.zero_add,cell_of_row _ _ _ _ _ _ hny];simp;exact hj
 have HB2:Hid (Below w.heap.size w (wy.setCells w.heap.size 0 M)):=Below.setCells' (Nat.le_refl _) _ _ _ HB.out
 have HS2:Hid (Az bm' n p.chg (wy.setCells w.heap.size 0 M)):=hs.only (Aa.setCells w.heap.size M 0 wy) (fun e=>by
  have:(w.alloc (.cells Tryz.zeroCells40 40)).drew.heap.size=w.heap.size+1:=World.size_alloc _ _;omega)
 have hbm2:w.heap.size<=bm':=Nat.le_trans HB0.out.size hbm;have l3:=run_loadVar_mid (P:=Tryz.prog) (wy.setCells w.heap.size 0 M) w.heap.size 0 40 M _ (World.rangeAt_setCells_same _ _ _ _ (by rw[List.size_toArray]at hty;exact hty)) Tryz.underlying40 rfl sM;refine wpAnyH_ready (rs:=[10]) (by kernel_rfl) (by decide) (AllReadyH.cons rfl (fun K hK=> ?_) AllReadyH.nil);rw[if_pos (by rfl)];refine wp_store_mid 40 _ _ rfl _ 0 M.toArray rfl rfl hty (by rw[List.size_toArray];exact sM) oM ?_;refine hK.out _ _ (HK.out _ HB2.out) (fun _=> ?_);clear hK K;refine wpAnyH_done (by kernel_rfl) ?_ _;clear hty hny hn0 hs hb g1 g0 hbu hru;go_wp2_with fail;exact bodyPost_ret (v:= .agg M.toArray) (Ax Tryz.results6 _ _ _ rfl l3) rfl ⟨bm',by rw[hM],hbm2,HS2.out,HB2.out⟩
end
def Pg.back (p q:Pg):Pg:={p with used:=q.used,rp:=q.rp,rn:=q.rn,chg:=q.chg}
section
variable {bp bd bm n:Nat} {p:Pg} {s:St} {w:World} {f:Nat->Option ByteArray}
theorem Bb.setState {q:Pg} {m:Nat} (h:Bb bp bd bm p w):Bb bp bd m (p.back q) (w.setCells bp 2001 (AD q.used q.rp q.rn m)):=by
 refine(h.row.setN 2001 (AD q.used q.rp q.rn m) (by rw[Bj];omega)).cells fun k hk=> ?_;have hl:=Bj q.used q.rp q.rn m
 by_cases h1:2001<=k/\k<4018
 ·obtain⟨j,rfl⟩:∃j,k=2001+j:=⟨k-2001,by omega⟩
  exact Fz _ _ _ (IK (p.back q) bd m (by omega))
 ·rw[AK _ _ _ (by omega)]
  unfold BL
  by_cases a0:k=0
  ·rw[if_pos a0,if_pos a0]
  rw[if_neg a0,if_neg a0]
  by_cases a1:k<2001
  ·rw[if_pos a1,if_pos a1];rfl
  rw[if_neg a1,if_neg a1,if_neg (show ¬k<4001 by omega),if_neg (show ¬k<4001 by omega),if_neg (show ¬k<4017 by omega),if_neg (show ¬k<4017 by omega),if_neg (show ¬k=4017 by omega),if_neg (show ¬k=4017 by omega)];rfl
set_option maxHeartbeats 400000
theorem S9 (h:Am bp bd bm n p w) (hd:p.down=false) (q:Pg) (mb n':Nat) (hS:Az mb n' q.chg w) (hmb:mb≠bp):
  Calls Tryz.prog 11 #[.pointer (some ⟨bp,0,none⟩),.agg (Hv q.used q.rp q.rn mb p.commits).toArray] w fun e w'=>e= .returned .nilIface/\(∃bm',w.heap.size<=bm'/\Am bp bd bm' n' (p.back q) w')/\Az mb n' q.chg w'/\Aa (fun b=>b=bp) w w':=by
 have HP:Hid (Am bp bd bm n p w):=h;have HS:Hid (Az mb n' q.chg w):=hS;obtain⟨M,hM⟩:∃M,Hv q.used q.rp q.rn mb p.commits=M:=⟨_,rfl⟩;obtain⟨L,hL⟩:∃L,AD q.used q.rp q.rn mb=L:=⟨_,rfl⟩;have hML:M=L++[.int .i64 p.commits]:=by rw[<-hM,<-hL];rfl
 have lL:L.length=2017:=by rw[<-hL,Bj]
 have sL:(Tryz.prog.info? 38).map (·.size)=some L.length:=by rw[lL];exact IP
 rw[hM];have hb:Below w.heap.size w (w.alloc (.cells M.toArray 40)):=(Below.refl _ _).alloc (Nat.le_refl _) _;have hn:(w.alloc (.cells M.toArray 40)).heap[w.heap.size]? =some (.cells M.toArray 40):=heap_alloc_new w _
 have q1:(w.alloc (.cells M.toArray 40)).cell? ⟨w.heap.size,2017,none⟩=some (.int .i64 p.commits):=by
  rw[cell_of_row _ _ _ _ _ _ hn,hML];simp[lL]
 have hC:=h.cells.block (hb.block _ h.lt);have q2:=hC.cell 4018 (by omega);have q3:=hC.cell 4019 (by omega);rw[Fq]at q2;rw[Ds,hd]at q3
 have HR0:Hid ((w.alloc (.cells M.toArray 40)).rangeAt w.heap.size 0 L):=fun j v hj=>by
  have hl:=(List.getElem?_eq_some_iff.1 hj).1;rw[Nat.zero_add,cell_of_row _ _ _ _ _ _ hn,hML];have:(L++[Value.int .i64 p.commits])[j]? =some v:=by rw[List.getElem?_append_left hl];exact hj
  simpa using this
 have HB:Hid _:=hb;have HL:Hid (AD q.used q.rp q.rn mb=L):=hL;clear hC hn h hS hb hML hM hL;go_enter Tryz.func11,Tryz.ntmps11;go_wp2;go_quiet (fail);obtain⟨wx,hwx⟩:∃wx,(w.alloc (.cells M.toArray 40)).drewN nq=wx:=⟨_,rfl⟩;rw[hwx];have HBx:Hid (Below w.heap.size w wx):=by rw[<-hwx];exact HB.out.trans ⟨rfl,rfl,rfl,Nat.le_refl _,fun _ _=>rfl⟩
 have HRx:Hid (wx.rangeAt w.heap.size 0 L):=by rw[<-hwx];exact HR0.out
 clear hwx HR0 HB q1 q2 q3
 go_wp2_with (refine wpList_load_mid rfl 38 _ rfl w.heap.size 0 rfl L _ HRx.out Tryz.underlying38 rfl sL ?_)
 rw[<-HL.out];refine(Ig (HS.out.block (HBx.out.block _ HS.out.lt)) q.used q.rp q.rn).mono ?_;rintro _ w2 ⟨bm',rfl,hbm,hs2,hb2⟩;have hB2:Below w.heap.size w w2:=HBx.out.trans (hb2.mono HBx.out.size);have hc2:=HP.out.cells.block (hB2.block _ HP.out.lt);obtain⟨R,hR⟩:∃R,AD q.used q.rp q.rn bm'=R:=⟨_,rfl⟩;rw[hR];have lR:R.length=2017:=by rw[<-hR,Bj]
 have sR:(Tryz.prog.info? 38).map (·.size)=some R.toArray.size:=by rw[List.size_toArray,lR];exact IP
 have oR:=all_oneCell_toArray (show ∀v∈R,v.oneCell'=true by rw[<-hR];exact FI _ _ _ _);have T2:Hid (w2.there bp 2001 R.toArray.size):=hc2.there 2001 _ (by rw[List.size_toArray,lR];omega);have hbp:=HP.out.lt;have hle:=HBx.out.size;have HC3:Hid (Bb bp bd bm' (p.back q) (w2.setCells bp 2001 R)):=by rw[<-hR];exact hc2.setState
 have ho:=Aa.setCells bp R 2001 w2;have HS3:Hid (Az bm' n' q.chg (w2.setCells bp 2001 R)):=hs2.only ho (fun e=>by omega);have HS4:Hid (Az mb n' q.chg (w2.setCells bp 2001 R)):=(HS.out.block (hB2.block _ HS.out.lt)).only ho hmb;have HO:Hid (Aa (fun b=>b=bp) w (w2.setCells bp 2001 R)):=(Aa.of_below hB2).trans ho (fun _ h=> .inl h);have hbm2:w.heap.size<=bm':=by omega
 clear hs2 hb2 hB2 hc2 ho hR lR
 go_wp2_with (refine wpList_store_mid rfl 38 _ _ rfl bp 2001 R.toArray rfl rfl T2.out sR oR ?_)
 go_ret;exact⟨rfl,⟨bm',hbm2,HC3.out,HS3.out⟩,HS4.out,HO.out⟩
end
structure GK (B:Nat) (g:Nat->Nat) (w:World):Prop where
 cell:∀j,j<1024->w.cell? ⟨B,j,none⟩=some (.int .u8 (g j))
 free:∀j,w.frozen? ⟨B,j,none⟩=false
 small:∀j,g j<256
theorem GK.lt {B:Nat} {g:Nat->Nat} {w:World} (h:GK B g w):B<w.heap.size:=World.block_lt_of_cell? w _ (h.cell 0 (by omega))
theorem GK.block {B:Nat} {g:Nat->Nat} {w w':World} (h:GK B g w) (hb:w'.heap[B]? =w.heap[B]?):GK B g w':=
 ⟨fun k hk=>(World.cell?_of_block hb).trans (h.cell k hk),fun k=>(World.frozen?_of_block (a:=⟨B,k,none⟩) hb).trans (h.free k),h.small⟩
theorem C4 {α β γ:Type} {o:Option TypeInfo} {f:TypeInfo->α} {g:TypeInfo->β} {k:TypeInfo->γ} {a:α} {b:β} {c:γ} (h:o.map (fun i=>(f i,g i,k i))=some (a,b,c)):∃i,o=some i/\f i=a/\g i=b/\k i=c:=by
 cases o with
 |none=>cases h
 |some i=>simp at h;exact⟨i,rfl,h.1,h.2.1,h.2.2⟩
theorem Qa (w:World):∃w',(Instr.makeSlice 199 (.int .i64 1024) (.int .i64 1024)).run Tryz.prog w= .ok (.slice (some ⟨w.heap.size,0,none⟩) 1024 1024) w'/\Below w.heap.size w w'/\GK w.heap.size (fun _=>0) w':=by
 obtain⟨i0,hi,hz0,hz1,hz2⟩:=C4 Uj;have h:=run_make (P:=Tryz.prog) w 199 5 i0 (.int .u8 0) Tryz.underlying199 hi hz0 .i64 .i64 1024 1024 (by omega) (Int.le_refl _) (by rw[hz2];omega) (by omega);rw[hz1]at h;have hn':=heap_alloc_new w (.cells (madeCells (Value.int .u8 0).cells 1024) 5);refine⟨_,h,(Below.refl _ w).alloc (Nat.le_refl _) _,fun j hj=> ?_,fun j=> ?_,fun j=>by decide⟩
 ·simp only[World.cell?,Nat.mul_one,show(1024:Int).toNat=1024 from rfl,hn']
  simp[madeCells,hj,Value.cells,Nat.mod_one]
 ·simp only[World.frozen?,Nat.mul_one,show(1024:Int).toNat=1024 from rfl,hn']
  simp
def BX (g:Nat->Nat):List UInt8:=(List.range 1024).map fun j=>UInt8.ofNat (g j)
theorem Dt (g:Nat->Nat):(BX g).length=1024:=by simp[BX]
theorem LT (g:Nat->Nat) {j:Nat} (hj:j<1024):(BX g).getD j 0=UInt8.ofNat (g j):=by
 simp[BX,List.getD_eq_getElem?_getD,List.getElem?_map,List.getElem?_range hj]
theorem GK.text {B:Nat} {g:Nat->Nat} {w:World} (h:GK B g w):(convert 199 9 (.slice (some ⟨B,0,none⟩) 1024 1024)).run Tryz.prog w= .ok (.string ⟨(BX g).toArray⟩) w:=by
 have:=run_convert_bytes_back (P:=Tryz.prog) w 199 9 5 ⟨B,0,none⟩ 1024 (BX g) Tryz.underlying199 Tryz.underlying5 Tryz.underlying9 (fun j hj=>by
  rw[Dt]at hj;rw[Addr.add_lit,Nat.zero_add,h.cell j hj];have hs:=h.small j;simp[BX,Nat.mod_eq_of_lt hs])
 rw[Dt]at this;exact this
structure W4 (w wr:World) (F G R:List Value) (g:Nat->Nat):Prop where
 used:wr.rangeAt w.heap.size 0 F
 upper:wr.rangeAt (w.heap.size+1) 0 G
 roots:wr.rangeAt (w.heap.size+1+1) 0 R
 page:GK (w.heap.size+1+1+1) g wr
 below:Below w.heap.size w wr
section
variable {w wr wx:World} {F G R:List Value} {g g':Nat->Nat}
end
end
section
open Go.RowKit Go.Maps Go.Shelf
end
section
open Go.RowKit Go.Maps
def tb (pg:Nat->ByteArray):Bool:=(pg 4000).data.toList.getD 0 0 != 0
structure Pg.Ok (p:Pg):Prop where
 zero:p.used 0=false
 chg:∀k t,p.chg k=some t->p.used k=true/\k<2000/\t.size=1024
 rp:∀i,i<8->0<=p.rp i/\p.rp i<65536
 rn:∀i,i<8->0<=p.rn i/\p.rn i<65536
section
variable {used upper:Nat->Bool} {rp rn:Nat->Int} {g:Nat->Nat}
end
theorem Qb (pg:Nat->ByteArray) (c:Int) (d:Bool):(GZ pg c d).Ok:=
 ⟨rfl,fun _ _ h=>(by cases h),fun i _=>MH _ _,fun i _=>MH _ _⟩
section
variable {p:Pg} {pg pg':Nat->ByteArray}
end
section
variable {p:Pg} {pg:Nat->ByteArray}
theorem Pg.Ok.write (h:p.Ok) {j:Nat} (hj:j<2000) (hu:p.used j=true) (t:ByteArray) (ht:t.size=1024):(p.write j t).Ok:=by
 refine⟨h.zero,fun k s hs=> ?_,h.rp,h.rn⟩
 change (if k=j then some t else p.chg k)=some s at hs
 split at hs
 ·rename_i e;subst e;cases hs;exact⟨hu,hj,ht⟩
 ·exact h.chg k s hs
theorem Pg.Ok.free (h:p.Ok) (j:Nat):(p.free j).Ok:=by
 refine⟨?_,fun k s hs=> ?_,h.rp,h.rn⟩
 ·show(if 0=j then false else p.used 0)=false
  split
  ·rfl
  ·exact h.zero
 ·change (if k=j then none else p.chg k)=some s at hs
  split at hs
  ·cases hs
  ·rename_i e
   refine⟨?_,(h.chg k s hs).2⟩;show(if k=j then false else p.used k)=true;rw[if_neg e];exact(h.chg k s hs).1
theorem Pg.Ok.alloc (h:p.Ok) {j:Nat} (h0:0<j) (hj:j<2000):(p.alloc j).Ok:=by
 refine⟨?_,fun k s hs=> ?_,h.rp,h.rn⟩
 ·show(if 0=j then true else p.used 0)=false
  rw[if_neg (by omega)];exact h.zero
 ·change (if k=j then some CR else p.chg k)=some s at hs
  show(if k=j then true else p.used k)=true/\_;split at hs
  ·rename_i e;subst e;cases hs;exact⟨if_pos rfl,hj,FG⟩
  ·rename_i e;rw[if_neg e];exact h.chg k s hs
theorem Pg.Ok.setRoot (h:p.Ok) (i:Nat) {k t:Int} (hk:inB k 2000=true) (ht:inB t 65536=true):(p.setRoot i k t).Ok:=by
 have hk':0<=k/\k<2000:=by simpa [inB]using hk
 have ht':0<=t/\t<65536:=by simpa [inB]using ht
 refine⟨h.zero,h.chg,fun j hj=> ?_,fun j hj=> ?_⟩
 ·show 0<=(if j=i then k else p.rp j)/\(if j=i then k else p.rp j)<65536
  split
  ·omega
  ·exact h.rp j hj
 ·show 0<=(if j=i then t else p.rn j)/\(if j=i then t else p.rn j)<65536
  split
  ·omega
  ·exact h.rn j hj
theorem Pg.Ok.back {q:Pg} (hq:q.Ok):(p.back q).Ok:=⟨hq.zero,hq.chg,hq.rp,hq.rn⟩
end
def Aq (x:Int):UInt8:=UInt8.ofNat (x % 256).toNat
theorem Ie {f g:Nat->Bool}:∀n,(∀k,k<n->f k=g k)->A1 f n=A1 g n
 |0,_=>rfl
 |n+1,h=>by rw[A1,A1,Ie n (fun k hk=>h k (by omega)),h n (by omega)]
section
variable {p:Pg} {pg pg':Nat->ByteArray}
end
end
end Go.Proofs.YtihnldkgeelehaaGreatDoor
