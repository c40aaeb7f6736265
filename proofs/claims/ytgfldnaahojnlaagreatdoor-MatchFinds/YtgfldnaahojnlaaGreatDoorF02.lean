/- MatchFinds: part 2. -/
import Derived.Test.YtgfldnaahojnlaaGreatDoorF01
import Derived.Laws.Tables
set_option maxRecDepth 100000
set_option maxHeartbeats 4000000
namespace Go.Proofs.YtgfldnaahojnlaaGreatDoor
section
open Go.RowKit Go.Maps
theorem IT {bm n:Nat} {f:Nat->Option ByteArray} {w:World} (hS:BH bm n f w) (hn:n<1000000) (k:Nat) (hk:k<2000) (s:ByteArray) (hs:s.size=1024):
  ∃w',(Instr.mapUpdate 114 (.map (some bm)) (.int .i64 k) (.agg #[.string s])).run Tryz.prog w= .ok () w'/\BH bm (n+1) (put f k (some s)) w'/\Aa (fun b=>b=bm) w w':=by
 obtain⟨D,hD,hM⟩:=hS;obtain⟨w',h1,h2,h3⟩:=hD.store BF Tryz.underlying114 (Nat.lt_trans hn (by decide)) (P3 k hk) (Me s);exact⟨w',h1,⟨_,h2,hM.put k hk s hs⟩,Aa.of_grown h3.grown rfl⟩
def Pg.write (p:Pg) (k:Nat) (s:ByteArray):Pg:={p with chg:=put p.chg k (some s)}
def Pg.free (p:Pg) (k:Nat):Pg:={p with used:=fun i=>if i=k then false else p.used i,chg:=put p.chg k none}
theorem CJ.chg {bp bd bm:Nat} {p:Pg} {w:World} (h:CJ bp bd bm p w) (f:Nat->Option ByteArray):CJ bp bd bm {p with chg:=f} w:=⟨fun k hk=>h.cell k hk,h.free⟩
section
variable {bp bd bm n:Nat} {p:Pg} {s:St} {w:World}
set_option maxHeartbeats 400000
theorem OH (h:Ar bp bd bm n p w) (hn:n<1000000) (hd:p.down=false) (j:Nat) (hj:j<2000) (hu:p.used j=true) (t:ByteArray) (ht:t.size=1024):
  Calls Tryz.prog 233 #[.pointer (some ⟨bp,0,none⟩),.int .i64 j,.string t] w fun e w'=>e= .returned .nilIface/\Ar bp bd bm (n+1) (p.write j t) w'/\Aa (fun b=>b=bm) w w':=by
 have HP:Hid (Ar bp bd bm n p w):=h;have q1:=h.cells.cell 4017 (by omega);rw[FH]at q1;have h1:(t.size:Int)=1024:=by omega
 have hne:=h.ne;clear h;go_enter Tryz.func233,Tryz.ntmps233;go_wp2_with fail;refine(I4 HP.out.cells j).mono ?_;rintro _ wa ⟨E,rfl,hE,hw⟩;subst wa;rw[MG hd hj hu]at hE;obtain rfl:E= .nilIface:=hE;go_wp2_with fail;have HK:Hid (∀wx,Aa (fun b=>b=bm) w wx->wx.cell? ⟨bp,4017,none⟩=some (.map (some bm))):=fun wx hx=>by rw[hx.cell HP.out.lt (fun e=>hne e.symm)];exact q1
 have HB0:Hid (Aa (fun b=>b=bm) w w.drew):=(Aa.refl _ w).drew
 go_region_held3 (fun wx=>wx.cell? ⟨bp,4017,none⟩=some (.map (some bm))) (first|exact HK.out _ HO2.out|exact HK.out _ HO.out|exact HK.out _ HB0.out) (first|(go_at_call 85;refine(Es t _ (by omega)).mono ?_;rintro _ wy ⟨rfl,hb⟩;have HO:Hid (Aa (fun b=>b=bm) w wy):=(Aa.of_below ((Below.refl _ w).drew.trans hb));obtain⟨w2,hst,hs2,ho2⟩:=IT (HP.out.own.block (Below.block ((Below.refl _ w).drew.trans hb) _ HP.out.own.lt)) hn j hj t ht;have HO2:Hid (Aa (fun b=>b=bm) w w2):=HO.out.trans ho2 (fun _ h=> .inl h);have HS2:Hid _:=hs2;clear hs2 ho2 hb))
 go_wp2;go_ret;exact⟨rfl,⟨(HP.out.cells.block (HO2.out.block bp HP.out.lt (fun e=>hne e.symm))).chg _,HS2.out⟩,HO2.out⟩
theorem CJ.setUsed (h:CJ bp bd bm p w) (j:Nat) (hj:j<2000) (b:Bool):CJ bp bd bm {p with used:=fun i=>if i=j then b else p.used i} (w.setCell ⟨bp,2001+j,none⟩ (.bool b)):=by
 refine(h.row.set (2001+j) (.bool b) (by omega)).cells fun k hk=> ?_
 by_cases e:k=2001+j
 ·subst e
  rw[I6,Dn _ _ _ hj];simp
 ·rw[Bp _ _ _ (by simp;omega)]
  by_cases e2:2001<=k/\k<4001
  ·obtain⟨m,rfl⟩:∃m,k=2001+m:=⟨k-2001,by omega⟩
   rw[Dn _ _ _ (by omega),Dn _ _ _ (by omega)];simp only;rw[if_neg (by omega)]
  ·unfold Di
   by_cases a0:k=0
   ·rw[if_pos a0,if_pos a0]
   rw[if_neg a0,if_neg a0]
   by_cases a1:k<2001
   ·rw[if_pos a1,if_pos a1]
   rw[if_neg a1,if_neg a1,if_neg (show ¬k<4001 by omega),if_neg (show ¬k<4001 by omega)]
theorem S5 (h:Ar bp bd bm n p w) (hd:p.down=false) (j:Nat) (hj:j<2000) (hu:p.used j=true):
  Calls Tryz.prog 231 #[.pointer (some ⟨bp,0,none⟩),.int .i64 j] w fun e w'=>e= .returned .nilIface/\Ar bp bd bm n (p.free j) w'/\Aa (fun b=>b=bp\/b=bm) w w':=by
 have HP:Hid (Ar bp bd bm n p w):=h;have h1:(j:Int)<2000:=by omega
 have q2:=h.cells.cell (2001+j) (by omega);have f2:=h.cells.free (2001+j);have hC:=h.cells.setUsed j hj false;have q1:=hC.cell 4017 (by omega);rw[FH]at q1;have hne:=h.ne;have HS:Hid (BH bm n p.chg (w.setCell ⟨bp,2001+j,none⟩ (.bool false))):=h.own.only (Aa.set bp _ _ w) hne;have HC:Hid _:=hC;clear h hC;go_enter Tryz.func231,Tryz.ntmps231;go_wp2_with fail;refine(I4 HP.out.cells j).mono ?_;rintro _ wa ⟨E,rfl,hE,hw⟩;subst wa;rw[MG hd hj hu]at hE;obtain rfl:E= .nilIface:=hE
 go_wp2_with (refine SI _ rfl _ _ rfl HS.out j hj rfl rfl ?_;intro w2 hs2 ho2;have HS2:Hid _:=hs2;have HO2:Hid _:=ho2;clear hs2 ho2)
 go_ret;refine⟨rfl,⟨(HC.out.block (HO2.out.block bp (by rw[World.size_setCell];exact HP.out.lt) (fun e=>hne e.symm))).chg _,HS2.out⟩,((Aa.set bp _ _ w).mono (fun i hi=> .inl hi)).trans HO2.out (fun i hi=> .inl (.inr hi))⟩
end
def Xi (f:Nat->Bool) (m:Nat) (r:Int):Prop:=(r= -1/\∀j,j<m->f j=true)\/∃i:Nat,r=i/\i<m/\f i=false/\∀j,j<i->f j=true
set_option maxHeartbeats 400000
theorem Su (B o m c:Nat) (hm:m<1000000) (f:Nat->Bool) (w:World) (hc:∀j,j<m->w.cell? ⟨B,o+j,none⟩=some (.bool (f j))):
  Calls Tryz.prog 256 #[.slice (some ⟨B,o,none⟩) m c,.bool false] w fun e w'=>(∃r,e= .returned (.int .i64 r)/\Xi f m r)/\w'=w:=by
 go_enter Tryz.func256,Tryz.ntmps256;go_wp2_with fail
 go_loop [8] (fun i=>∃k:Nat,k<=m/\i= .int .i64 k/\Hid (∀j,j<k->f j=true)) (fun i=>m-(intOf i).toNat)
 case atStart=>exact⟨0,Nat.zero_le _,rfl,fun j hj=>by omega⟩
 case round=>
  obtain⟨k,hk,rfl,HF⟩:=hrel
  by_cases hlt:k<m
  ·have h1:(k:Int)<(m:Int):=by omega
   have q:=hc k hlt
   cases hf:f k
   ·rw[hf]at q
    go_wp2;go_ret;exact⟨⟨_,rfl,.inr ⟨k,rfl,hlt,hf,HF.out⟩⟩,rfl⟩
   ·rw[hf]at q
    go_wp2
    go_round
    case rel=>exact⟨k+1,by omega,by go_num,fun j hj=>by
     by_cases e:j=k
     ·rw[e];exact hf
     ·exact HF.out j (by omega)⟩
    case measure=>simp[intOf];omega
  ·have h1:¬(k:Int)<(m:Int):=by omega
   go_wp2;go_ret;exact⟨⟨_,rfl,.inl ⟨rfl,fun j hj=>HF.out j (by omega)⟩⟩,rfl⟩
def Pg.alloc (p:Pg) (k:Nat):Pg:={p with used:=fun i=>if i=k then true else p.used i,chg:=put p.chg k (some D5)}
section
variable {bp bd bm n:Nat} {p:Pg} {s:St} {w:World}
theorem Qe (h:Ar bp bd bm n p w) (hn:n<1000000) (hd:p.down=false) (k:Nat) (h0:0<k) (hk:k<2000) (hu:p.used k=false) (hl:∀j,0<j->j<k->p.used j=true):
  Calls Tryz.prog 230 #[.pointer (some ⟨bp,0,none⟩)] w fun e w'=>e= .returned (.tuple #[.int .i64 k,.nilIface])/\Ar bp bd bm (n+1) (p.alloc k) w'/\Aa (fun b=>b=bp\/b=bm) w w':=by
 have HP:Hid (Ar bp bd bm n p w):=h;have q:=h.cells.cell 4019 (by omega);rw[Fa,hd]at q
 have HC:Hid (∀j,j<1999->w.cell? ⟨bp,2002+j,none⟩=some (.bool (p.used (j+1)))):=fun j hj=>by
  rw[show 2002+j=2001+(j+1) by omega,h.cells.cell _ (by omega),Dn _ _ _ (by omega)]
 clear h;go_enter Tryz.func230,Tryz.ntmps230;go_wp2_with fail;obtain⟨m,rfl⟩:∃m,k=m+1:=⟨k-1,by omega⟩;refine(Su bp 2002 1999 1999 (by omega) (fun j=>p.used (j+1)) w HC.out).mono ?_;rintro _ wa ⟨⟨r,rfl,hF⟩,hw⟩;subst wa
 have hr:r=(m:Int):=by
  rcases hF with⟨_,h1⟩|⟨i,rfl,h1,h2,h3⟩
  ·exact absurd (show p.used (m+1)=true from h1 m (by omega)) (by rw[hu];decide)
  ·by_cases e1:i<m
   ·exact absurd (show p.used (i+1)=false from h2) (by rw[hl (i+1) (by omega) (by omega)];decide)
   ·by_cases e2:m<i
    ·exact absurd (show p.used (m+1)=true from h3 m e2) (by rw[hu];decide)
    ·omega
 subst hr;clear hF HC;have h1:1+(m:Int)<2000:=by omega
 have e0:((1+(m:Int)) == 0)=false:=by simp;omega
 have q2:=HP.out.cells.cell (2001+(1+m)) (by omega);have f2:=HP.out.cells.free (2001+(1+m));have hC:=HP.out.cells.setUsed (1+m) (by omega) true;have q1:=hC.cell 4017 (by omega);rw[FH]at q1;have hne:=HP.out.ne;have HC:Hid _:=hC;have HS:Hid (BH bm n p.chg (w.setCell ⟨bp,2001+(1+m),none⟩ (.bool true))):=HP.out.own.only (Aa.set bp _ _ w) hne;clear hC;go_wp2_with fail;obtain⟨wb,hwb⟩:∃wb,w.setCell ⟨bp,2001+(1+m),none⟩ (.bool true)=wb:=⟨_,rfl⟩;have ho1:Aa (fun b=>b=bp) w wb:=by rw[<-hwb];exact Aa.set bp _ _ w
 rw[hwb]at q1 HC HS;rw[hwb];have hbp:bp<wb.heap.size:=HC.out.lt;have HK:Hid (∀wx,Aa (fun b=>b=bm) wb wx->wx.cell? ⟨bp,4017,none⟩=some (.map (some bm))):=fun wx hx=>by rw[hx.cell hbp (fun e=>hne e.symm)];exact q1
 have HB0:Hid (Aa (fun b=>b=bm) wb wb.drew):=(Aa.refl _ wb).drew;have HO1:Hid _:=ho1;clear ho1 q2 f2 hwb q
 go_region_held3 (fun wx=>wx.cell? ⟨bp,4017,none⟩=some (.map (some bm))) (first|exact HK.out _ HO2.out|exact HK.out _ HO.out|exact HK.out _ HB0.out) (first|(go_at_call 165;refine(Lc _).mono ?_;rintro _ wy ⟨rfl,hb⟩;have HO:Hid (Aa (fun b=>b=bm) wb wy):=(Aa.of_below ((Below.refl _ wb).drew.trans hb));obtain⟨w2,hst,hs2,ho2⟩:=IT (HS.out.block (Below.block ((Below.refl _ wb).drew.trans hb) _ HS.out.lt)) hn (1+m) (by omega) D5 GS;rw[show((1+m:Nat):Int)=1+(m:Int) by omega]at hst;have HO2:Hid (Aa (fun b=>b=bm) wb w2):=HO.out.trans ho2 (fun _ h=> .inl h);have HS2:Hid _:=hs2;clear hs2 ho2 hb))
 go_wp2;go_ret2;refine⟨by rw[show((m+1:Nat):Int)=1+(m:Int) by omega];rfl,⟨?_,?_⟩,(HO1.out.mono (fun i hi=> .inl hi)).trans HO2.out (fun i hi=> .inl (.inr hi))⟩
 ·have h9:=(HC.out.block (HO2.out.block bp hbp (fun e=>hne e.symm))).chg (put p.chg (1+m) (some D5))
  rw[Nat.add_comm 1 m]at h9;exact h9
 ·have h9:=HS2.out
  rw[Nat.add_comm 1 m]at h9;exact h9
end
def AB (f:Nat->Bool):Nat->Nat
 |0=>0
 |k+1=>AB f k+(if f k then 1 else 0)
section
variable {bp bd bm n:Nat} {p:Pg} {s:St} {w:World}
end
section
variable {bp bd bm n:Nat} {p:Pg} {s:St} {w:World} {f:Nat->Option ByteArray}
end
section
variable {bp bd bm n:Nat} {p:Pg} {s:St} {w:World} {f:Nat->Option ByteArray}
end
end
section
open Go.RowKit Go.Maps
end
section
open Go.RowKit Go.Maps
section
variable {bp bd bm n:Nat} {p:Pg} {s:St} {w:World} {f:Nat->Option ByteArray}
end
section
variable {bp bd bm n:Nat} {p:Pg} {s:St} {w:World} {f:Nat->Option ByteArray}
end
structure Iy (B:Nat) (g:Nat->Nat) (w:World):Prop where
 cell:∀j,j<1024->w.cell? ⟨B,j,none⟩=some (.int .u8 (g j))
 free:∀j,w.frozen? ⟨B,j,none⟩=false
 small:∀j,g j<256
theorem Iy.lt {B:Nat} {g:Nat->Nat} {w:World} (h:Iy B g w):B<w.heap.size:=World.block_lt_of_cell? w _ (h.cell 0 (by omega))
theorem Iy.block {B:Nat} {g:Nat->Nat} {w w':World} (h:Iy B g w) (hb:w'.heap[B]? =w.heap[B]?):Iy B g w':=
 ⟨fun k hk=>(World.cell?_of_block hb).trans (h.cell k hk),fun k=>(World.frozen?_of_block (a:=⟨B,k,none⟩) hb).trans (h.free k),h.small⟩
theorem Ko {α β γ:Type} {o:Option TypeInfo} {f:TypeInfo->α} {g:TypeInfo->β} {k:TypeInfo->γ} {a:α} {b:β} {c:γ} (h:o.map (fun i=>(f i,g i,k i))=some (a,b,c)):∃i,o=some i/\f i=a/\g i=b/\k i=c:=by
 cases o with
 |none=>cases h
 |some i=>simp at h;exact⟨i,rfl,h.1,h.2.1,h.2.2⟩
theorem Si (w:World):∃w',(Instr.makeSlice 166 (.int .i64 1024) (.int .i64 1024)).run Tryz.prog w= .ok (.slice (some ⟨w.heap.size,0,none⟩) 1024 1024) w'/\Below w.heap.size w w'/\Iy w.heap.size (fun _=>0) w':=by
 obtain⟨i0,hi,hz0,hz1,hz2⟩:=Ko UP;have h:=run_make (P:=Tryz.prog) w 166 5 i0 (.int .u8 0) Tryz.underlying166 hi hz0 .i64 .i64 1024 1024 (by omega) (Int.le_refl _) (by rw[hz2];omega) (by omega);rw[hz1]at h;have hn':=heap_alloc_new w (.cells (madeCells (Value.int .u8 0).cells 1024) 5);refine⟨_,h,(Below.refl _ w).alloc (Nat.le_refl _) _,fun j hj=> ?_,fun j=> ?_,fun j=>by decide⟩
 ·simp only[World.cell?,Nat.mul_one,show(1024:Int).toNat=1024 from rfl,hn']
  simp[madeCells,hj,Value.cells,Nat.mod_one]
 ·simp only[World.frozen?,Nat.mul_one,show(1024:Int).toNat=1024 from rfl,hn']
  simp
def Cy (g:Nat->Nat):List UInt8:=(List.range 1024).map fun j=>UInt8.ofNat (g j)
theorem DY (g:Nat->Nat):(Cy g).length=1024:=by simp[Cy]
theorem MK (g:Nat->Nat) {j:Nat} (hj:j<1024):(Cy g).getD j 0=UInt8.ofNat (g j):=by
 simp[Cy,List.getD_eq_getElem?_getD,List.getElem?_map,List.getElem?_range hj]
theorem Iy.text {B:Nat} {g:Nat->Nat} {w:World} (h:Iy B g w):(convert 166 9 (.slice (some ⟨B,0,none⟩) 1024 1024)).run Tryz.prog w= .ok (.string ⟨(Cy g).toArray⟩) w:=by
 have:=run_convert_bytes_back (P:=Tryz.prog) w 166 9 5 ⟨B,0,none⟩ 1024 (Cy g) Tryz.underlying166 Tryz.underlying5 Tryz.underlying9 (fun j hj=>by
  rw[DY]at hj;rw[Addr.add_lit,Nat.zero_add,h.cell j hj];have hs:=h.small j;simp[Cy,Nat.mod_eq_of_lt hs])
 rw[DY]at this;exact this
structure W4 (w wr:World) (F G R:List Value) (g:Nat->Nat):Prop where
 used:wr.rangeAt w.heap.size 0 F
 upper:wr.rangeAt (w.heap.size+1) 0 G
 roots:wr.rangeAt (w.heap.size+1+1) 0 R
 page:Iy (w.heap.size+1+1+1) g wr
 below:Below w.heap.size w wr
section
variable {w wr wx:World} {F G R:List Value} {g g':Nat->Nat}
end
end
section
open Go.RowKit Go.Maps
end
section
open Go.RowKit Go.Maps
structure Pg.Ok (p:Pg):Prop where
 zero:p.used 0=false
 chg:∀k t,p.chg k=some t->p.used k=true/\k<2000/\t.size=1024
 rp:∀i,i<8->0<=p.rp i/\p.rp i<65536
 rn:∀i,i<8->0<=p.rn i/\p.rn i<65536
section
variable {used upper:Nat->Bool} {rp rn:Nat->Int} {g:Nat->Nat}
end
theorem Sj (pg:Nat->ByteArray) (c:Int) (d:Bool):(IE pg c d).Ok:=
 ⟨rfl,fun _ _ h=>(by cases h),fun i _=>NP _ _,fun i _=>NP _ _⟩
section
variable {p:Pg} {pg pg':Nat->ByteArray}
end
section
variable {p:Pg} {pg:Nat->ByteArray}
theorem Pg.Ok.write (h:p.Ok) {j:Nat} (hj:j<2000) (hu:p.used j=true) (t:ByteArray) (ht:t.size=1024):(p.write j t).Ok:=by
 refine⟨h.zero,fun k s hs=> ?_,h.rp,h.rn⟩
 change (if k=j then some t else p.chg k)=some s at hs
 split at hs
 ·rename_i e;subst e;cases hs;exact⟨hu,hj,ht⟩
 ·exact h.chg k s hs
theorem Pg.Ok.free (h:p.Ok) (j:Nat):(p.free j).Ok:=by
 refine⟨?_,fun k s hs=> ?_,h.rp,h.rn⟩
 ·show(if 0=j then false else p.used 0)=false
  split
  ·rfl
  ·exact h.zero
 ·change (if k=j then none else p.chg k)=some s at hs
  split at hs
  ·cases hs
  ·rename_i e
   refine⟨?_,(h.chg k s hs).2⟩;show(if k=j then false else p.used k)=true;rw[if_neg e];exact(h.chg k s hs).1
theorem Pg.Ok.alloc (h:p.Ok) {j:Nat} (h0:0<j) (hj:j<2000):(p.alloc j).Ok:=by
 refine⟨?_,fun k s hs=> ?_,h.rp,h.rn⟩
 ·show(if 0=j then true else p.used 0)=false
  rw[if_neg (by omega)];exact h.zero
 ·change (if k=j then some D5 else p.chg k)=some s at hs
  show(if k=j then true else p.used k)=true/\_;split at hs
  ·rename_i e;subst e;cases hs;exact⟨if_pos rfl,hj,GS⟩
  ·rename_i e;rw[if_neg e];exact h.chg k s hs
theorem Pg.Ok.setRoot (h:p.Ok) (i:Nat) {k t:Int} (hk:inB k 2000=true) (ht:inB t 65536=true):(p.setRoot i k t).Ok:=by
 have hk':0<=k/\k<2000:=by simpa [inB]using hk
 have ht':0<=t/\t<65536:=by simpa [inB]using ht
 refine⟨h.zero,h.chg,fun j hj=> ?_,fun j hj=> ?_⟩
 ·show 0<=(if j=i then k else p.rp j)/\(if j=i then k else p.rp j)<65536
  split
  ·omega
  ·exact h.rp j hj
 ·show 0<=(if j=i then t else p.rn j)/\(if j=i then t else p.rn j)<65536
  split
  ·omega
  ·exact h.rn j hj
end
def B7 (x:Int):UInt8:=UInt8.ofNat (x % 256).toNat
theorem Gk {f g:Nat->Bool}:∀n,(∀k,k<n->f k=g k)->AB f n=AB g n
 |0,_=>rfl
 |n+1,h=>by rw[AB,AB,Gk n (fun k hk=>h k (by omega)),h n (by omega)]
section
variable {p:Pg} {pg pg':Nat->ByteArray}
end
structure Pst where
 used:Nat->Bool
 tx:Nat->ByteArray
 rp:Nat->Int
 rn:Nat->Int
def Pst.write (V:Pst) (k:Nat) (t:ByteArray):Pst:={V with tx:=fun i=>if i=k then t else V.tx i}
def Pst.alloc (V:Pst) (k:Nat):Pst:={V with used:=fun i=>if i=k then true else V.used i,tx:=fun i=>if i=k then D5 else V.tx i}
def Pst.free (V:Pst) (k:Nat):Pst:={V with used:=fun i=>if i=k then false else V.used i}
def Pst.setRoot (V:Pst) (i:Nat) (k t:Int):Pst:={V with rp:=fun j=>if j=i then k else V.rp j,rn:=fun j=>if j=i then t else V.rn j}
structure Ej (p:Pg) (pg:Nat->ByteArray) (V:Pst):Prop where
 used:p.used=V.used
 text:∀k,k<2000->V.used k=true->p.text pg k=V.tx k
 rp:∀i,i<8->p.rp i=V.rp i
 rn:∀i,i<8->p.rn i=V.rn i
section
variable {p:Pg} {pg:Nat->ByteArray} {V:Pst}
theorem Ej.write (h:Ej p pg V) (k:Nat) (t:ByteArray):Ej (p.write k t) pg (V.write k t):=by
 refine⟨h.used,fun j hj hu=> ?_,h.rp,h.rn⟩;show(if j=k then some t else p.chg j).getD _=(if j=k then t else V.tx j)
 by_cases e:j=k
 ·rw[if_pos e,if_pos e];rfl
 ·rw[if_neg e,if_neg e];exact h.text j hj hu
theorem Ej.alloc (h:Ej p pg V) (k:Nat):Ej (p.alloc k) pg (V.alloc k):=by
 refine⟨by show(fun i=>if i=k then true else p.used i)=_;rw[h.used];rfl,fun j hj hu=> ?_,h.rp,h.rn⟩;show(if j=k then some D5 else p.chg j).getD _=(if j=k then D5 else V.tx j)
 by_cases e:j=k
 ·rw[if_pos e,if_pos e];rfl
 ·rw[if_neg e,if_neg e]
  change (if j=k then true else V.used j)=true at hu
  rw[if_neg e]at hu;exact h.text j hj hu
theorem Ej.free (h:Ej p pg V) (k:Nat):Ej (p.free k) pg (V.free k):=by
 refine⟨by show(fun i=>if i=k then false else p.used i)=_;rw[h.used];rfl,fun j hj hu=> ?_,h.rp,h.rn⟩
 change (if j=k then false else V.used j)=true at hu
 show(if j=k then none else p.chg j).getD _=V.tx j
 by_cases e:j=k
 ·rw[if_pos e]at hu;cases hu
 ·rw[if_neg e]at hu
  rw[if_neg e];exact h.text j hj hu
theorem Ej.setRoot (h:Ej p pg V) (i:Nat) (k t:Int):Ej (p.setRoot i k t) pg (V.setRoot i k t):=by
 refine⟨h.used,h.text,fun j hj=> ?_,fun j hj=> ?_⟩
 ·show(if j=i then k else p.rp j)=(if j=i then k else V.rp j)
  rw[h.rp j hj]
 ·show(if j=i then t else p.rn j)=(if j=i then t else V.rn j)
  rw[h.rn j hj]
end
structure Tw (bp bd bm N:Nat) (s:St) (up:Nat->Bool) (cm:Int) (V:Pst) (w:World):Prop where
 ex:∃p:Pg,Ar bp bd bm N p w/\p.Ok/\p.down=false/\p.upper=up/\p.commits=cm/\Ej p s.pg V
 prg:Prg bd s w
section
variable {bp bd bm N:Nat} {s:St} {up:Nat->Bool} {cm:Int} {V:Pst} {w wx:World}
theorem Tw.below (h:Tw bp bd bm N s up cm V w) (hb:Below w.heap.size w wx):Tw bp bd bm N s up cm V wx:=by
 obtain⟨p,h1,h2⟩:=h.ex;exact⟨⟨p,h1.below hb,h2⟩,Prg.below h.prg hb⟩
theorem Tw.drew (h:Tw bp bd bm N s up cm V w):Tw bp bd bm N s up cm V w.drew:=by
 obtain⟨p,h1,h2⟩:=h.ex;exact⟨⟨p,h1.drew,h2⟩,Prg.drew h.prg⟩
theorem Tw.mono (h:Tw bp bd bm N s up cm V w) {N':Nat} (hN:N<=N'):Tw bp bd bm N' s up cm V w:=by
 obtain⟨p,h1,h2⟩:=h.ex;exact⟨⟨p,h1.mono hN,h2⟩,h.prg⟩
theorem Tw.lt (h:Tw bp bd bm N s up cm V w):bp<w.heap.size/\bm<w.heap.size/\bd<w.heap.size:=by
 obtain⟨p,h1,h2⟩:=h.ex;exact⟨h1.lt,h1.mlt,BG.lt h.prg⟩
theorem Tw.only {S:Nat->Prop} (h:Tw bp bd bm N s up cm V w) (ho:Aa S w wx) (h1:¬S bp) (h2:¬S bm) (h3:¬S bd):Tw bp bd bm N s up cm V wx:=by
 obtain⟨p,k1,k2⟩:=h.ex;exact⟨⟨p,k1.only ho h1 h2,k2⟩,Prg.only h.prg ho h3⟩
theorem VJ (h:Tw bp bd bm N s up cm V w):Calls Tryz.prog 166 #[.pointer (some ⟨bp,0,none⟩)] w fun e w'=>e= .returned (.bool false)/\w'=w:=by
 obtain⟨p,h1,h2,h3,_⟩:=h.ex;refine(Ve h1.cells).mono ?_;rintro _ w' ⟨rfl,hw⟩;exact⟨by rw[h3],hw⟩
theorem LV (h:Tw bp bd bm N s up cm V w) (i:Nat) (hi:i<8):Calls Tryz.prog 46 #[.pointer (some ⟨bp,0,none⟩),.int .i64 i] w fun e w'=>e= .returned (.tuple #[.int .i64 (V.rp i),.int .i64 (V.rn i),.nilIface])/\Below w.heap.size w w':=by
 obtain⟨p,h1,h2,h3,_,_,hm⟩:=h.ex;refine(TM h1.cells i hi).mono ?_;rintro _ w' ⟨rfl,hw⟩;exact⟨by rw[hm.rp i hi,hm.rn i hi],hw⟩
theorem Jm (h:Tw bp bd bm N s up cm V w) (k:Nat) (hk:k<2000) (hu:V.used k=true):Calls Tryz.prog 124 #[.pointer (some ⟨bp,0,none⟩),.int .i64 k] w fun e w'=>e= .returned (.tuple #[.string (V.tx k),.nilIface])/\Below w.heap.size w w':=by
 obtain⟨p,h1,h2,h3,_,_,hm⟩:=h.ex;refine(R0 h1 h.prg h3 k hk (by rw[hm.used];exact hu)).mono ?_;rintro _ w' ⟨rfl,hw⟩;exact⟨by rw[hm.text k hk hu],hw⟩
theorem Ts (h:Tw bp bd bm N s up cm V w) (hN:N<1000000) (k:Nat) (hk:k<2000) (hu:V.used k=true) (t:ByteArray) (ht:t.size=1024):
  Calls Tryz.prog 233 #[.pointer (some ⟨bp,0,none⟩),.int .i64 k,.string t] w fun e w'=>e= .returned .nilIface/\Tw bp bd bm (N+1) s up cm (V.write k t) w'/\Aa (fun b=>b=bp\/b=bm) w w':=by
 obtain⟨p,h1,h2,h3,h4,h5,hm⟩:=h.ex;have hu':p.used k=true:=by rw[hm.used];exact hu
 refine(OH h1 hN h3 k hk hu' t ht).mono ?_;rintro _ w' ⟨rfl,hP,hO⟩;exact⟨rfl,⟨⟨_,hP,h2.write hk hu' t ht,h3,h4,h5,hm.write k t⟩,Prg.only h.prg hO (fun e=>h1.md h.prg e.symm)⟩,hO.mono (fun _ e=> .inr e)⟩
theorem VI (h:Tw bp bd bm N s up cm V w) (k:Nat) (hk:k<2000) (hu:V.used k=true):
  Calls Tryz.prog 231 #[.pointer (some ⟨bp,0,none⟩),.int .i64 k] w fun e w'=>e= .returned .nilIface/\Tw bp bd bm N s up cm (V.free k) w'/\Aa (fun b=>b=bp\/b=bm) w w':=by
 obtain⟨p,h1,h2,h3,h4,h5,hm⟩:=h.ex;refine(S5 h1 h3 k hk (by rw[hm.used];exact hu)).mono ?_;rintro _ w' ⟨rfl,hP,hO⟩;exact⟨rfl,⟨⟨_,hP,h2.free k,h3,h4,h5,hm.free k⟩,Prg.only h.prg hO (fun e=>by rcases e with e|e;exact h1.nd h.prg e.symm;exact h1.md h.prg e.symm)⟩,hO⟩
theorem Tu (h:Tw bp bd bm N s up cm V w) (hN:N<1000000) (k:Nat) (h0:0<k) (hk:k<2000) (hu:V.used k=false) (hl:∀j,0<j->j<k->V.used j=true):
  Calls Tryz.prog 230 #[.pointer (some ⟨bp,0,none⟩)] w fun e w'=>e= .returned (.tuple #[.int .i64 k,.nilIface])/\Tw bp bd bm (N+1) s up cm (V.alloc k) w'/\Aa (fun b=>b=bp\/b=bm) w w':=by
 obtain⟨p,h1,h2,h3,h4,h5,hm⟩:=h.ex;refine(Qe h1 hN h3 k h0 hk (by rw[hm.used];exact hu) (fun j a b=>by rw[hm.used];exact hl j a b)).mono ?_;rintro _ w' ⟨rfl,hP,hO⟩;exact⟨rfl,⟨⟨_,hP,h2.alloc h0 hk,h3,h4,h5,hm.alloc k⟩,Prg.only h.prg hO (fun e=>by rcases e with e|e;exact h1.nd h.prg e.symm;exact h1.md h.prg e.symm)⟩,hO⟩
theorem J4 (h:Tw bp bd bm N s up cm V w) (i:Nat) (hi:i<8) (k t:Nat) (hk:k<2000) (ht:t<65536):
  Calls Tryz.prog 189 #[.pointer (some ⟨bp,0,none⟩),.int .i64 i,.int .i64 k,.int .i64 t] w fun e w'=>e= .returned .nilIface/\Tw bp bd bm N s up cm (V.setRoot i k t) w'/\Aa (fun b=>b=bp\/b=bm) w w':=by
 obtain⟨p,h1,h2,h3,h4,h5,hm⟩:=h.ex;have b1:inB (k:Int) 2000=true:=by unfold inB;simp;omega
 have b2:inB (t:Int) 65536=true:=by unfold inB;simp;omega
 refine(Nm h1.cells h3 i hi k t b1 b2).mono ?_;rintro _ w' ⟨rfl,hC,hO⟩;exact⟨rfl,⟨⟨_,⟨hC,h1.own.only hO h1.ne⟩,h2.setRoot i b1 b2,h3,h4,h5,hm.setRoot i k t⟩,Prg.only h.prg hO (fun e=>h1.nd h.prg e.symm)⟩,hO.mono (fun _ e=> .inl e)⟩
end
end
section
open Go.RowKit
structure Pr where
 k:ByteArray
 i:ByteArray
def Pr.Ok (x:Pr):Prop:=1<=x.k.size/\x.k.size<=60/\x.i.size<=100
def Pr.sz (x:Pr):Nat:=2+x.k.size+x.i.size
def Pr.enc (x:Pr):List UInt8:=UInt8.ofNat x.k.size::UInt8.ofNat x.i.size::(x.k.data.toList++x.i.data.toList)
def Dg:List Pr->List UInt8
 | []=>[]
 |x::r=>x.enc++Dg r
def szL:List Pr->Nat
 | []=>0
 |x::r=>x.sz+szL r
theorem Pr.enc_len (x:Pr):x.enc.length=x.sz:=by
 unfold Pr.enc Pr.sz;simp only[List.length_cons,List.length_append,Array.length_toList];show x.k.size+x.i.size+1+1=_;omega
theorem Fu:∀l,(Dg l).length=szL l
 | []=>rfl
 |x::r=>by rw[Dg,szL,List.length_append,Pr.enc_len,Fu r]
theorem DV:∀l m,Dg (l++m)=Dg l++Dg m
 | [],_=>rfl
 |x::r,m=>by rw[List.cons_append,Dg,Dg,DV r m,List.append_assoc]
theorem Am:∀l m,szL (l++m)=szL l+szL m
 | [],m=>by rw[List.nil_append,szL,Nat.zero_add]
 |x::r,m=>by rw[List.cons_append,szL,szL,Am r m,Nat.add_assoc]
theorem EO (l:List Pr) (j:Nat):szL (l.take j)<=szL l:=by
 conv=>rhs;rw[<-List.take_append_drop j l,Am]
 omega
theorem Bj {l:List Pr} {j:Nat} (hj:j<l.length):szL (l.take (j+1))=szL (l.take j)+l[j].sz:=by
 rw[List.take_succ_eq_append_getElem hj,Am];rfl
structure Dq (t:ByteArray) (ps:List Pr) (z:Nat):Prop where
 data:t.data.toList=Dg ps++List.replicate z 0
 ok:∀x∈ps,x.Ok
 small:t.size<=4096
section
variable {t:ByteArray} {ps:List Pr} {z:Nat}
theorem Dq.size (h:Dq t ps z):t.size=szL ps+z:=by
 have:=congrArg List.length h.data;rw[List.length_append,Fu,List.length_replicate,Array.length_toList]at this;exact this
theorem Dq.at (h:Dq t ps z) {j:Nat} (hj:j<ps.length):t.data.toList.drop (szL (ps.take j))=ps[j].enc++(Dg (ps.drop (j+1))++List.replicate z 0):=by
 rw[h.data]
 have e:Dg ps=Dg (ps.take j)++(ps[j].enc++Dg (ps.drop (j+1))):=by
  conv=>lhs;rw[<-List.take_append_drop j ps,DV,List.drop_eq_getElem_cons hj]
  rfl
 rw[e,List.append_assoc,<-Fu,List.drop_left,List.append_assoc]
theorem KX {t:ByteArray} {n:Nat} (hn:n<t.size):t[n]=t.data.toList[n]'(by rw[Array.length_toList];exact hn):=by
 rw[Array.getElem_toList];rfl
theorem CC {t:ByteArray} {a b:Nat} {l:List UInt8} {x:UInt8} (h:t.data.toList.drop a=l) (hx:l[b]? =some x) (hn:a+b<t.size):t[a+b]=x:=by
 rw[KX hn];have:=congrArg (·[b]?) h;simp only[List.getElem?_drop]at this;rw[hx]at this;rw[List.getElem?_eq_getElem (by rw[Array.length_toList];exact hn)]at this;exact Option.some.inj this
theorem Dq.room (h:Dq t ps z) {j:Nat} (hj:j<ps.length):szL (ps.take j)+ps[j].sz<=t.size:=by
 rw[h.size,<-Bj hj];have:=EO ps (j+1);omega
theorem Hr {n:Nat} (h:n<=200):(UInt8.ofNat n).toNat=n:=by
 rw[UInt8.toNat_ofNat'];exact Nat.mod_eq_of_lt (by omega)
theorem Dq.key_len (h:Dq t ps z) {j:Nat} (hj:j<ps.length) (hn:szL (ps.take j)<t.size):(t[szL (ps.take j)]).toNat=ps[j].k.size:=by
 have e:=CC (t:=t) (a:=szL (ps.take j)) (b:=0) (x:=UInt8.ofNat ps[j].k.size) (h.at hj) rfl hn;have e2:t[szL (ps.take j)]=UInt8.ofNat ps[j].k.size:=e;rw[e2];exact Hr (by have:=(h.ok _ (List.getElem_mem hj)).2.1;omega)
theorem Dq.item_len (h:Dq t ps z) {j:Nat} (hj:j<ps.length) (hn:szL (ps.take j)+1<t.size):(t[szL (ps.take j)+1]).toNat=ps[j].i.size:=by
 rw[CC (t:=t) (a:=szL (ps.take j)) (b:=1) (x:=UInt8.ofNat ps[j].i.size) (h.at hj) rfl hn];exact Hr (by have:=(h.ok _ (List.getElem_mem hj)).2.2;omega)
theorem FL {t:ByteArray} {a b c:Nat} {l m r:List UInt8} (h:t.data.toList.drop a=l++(m++r)) (hb:b=a+l.length) (hc:c=b+m.length):t.extract b c=⟨m.toArray⟩:=by
 apply ByteArray.ext;apply Array.toList_inj.1;rw[ByteArray.data_extract,Array.toList_extract,List.extract_eq_take_drop];show(t.data.toList.drop b).take (c-b)=m
 have:t.data.toList.drop b=m++r:=by
  rw[hb,<-List.drop_drop,h,List.drop_left]
 rw[this,show c-b=m.length by omega,List.take_left]
theorem L3 (b:ByteArray):(⟨b.data.toList.toArray⟩:ByteArray)=b:=by cases b;simp
theorem Dq.key (h:Dq t ps z) {j:Nat} (hj:j<ps.length):t.extract (szL (ps.take j)+2) (szL (ps.take j)+2+ps[j].k.size)=ps[j].k:=by
 have e:=h.at hj;rw[show ps[j].enc=[UInt8.ofNat ps[j].k.size,UInt8.ofNat ps[j].i.size]++(ps[j].k.data.toList++ps[j].i.data.toList)from rfl,List.append_assoc,List.append_assoc]at e;rw[FL (b:=szL (ps.take j)+2) e rfl (by rw[Array.length_toList];rfl),L3]
theorem Dq.item (h:Dq t ps z) {j:Nat} (hj:j<ps.length):t.extract (szL (ps.take j)+2+ps[j].k.size) (szL (ps.take j)+2+ps[j].k.size+ps[j].i.size)=ps[j].i:=by
 have e:=h.at hj;rw[show ps[j].enc=([UInt8.ofNat ps[j].k.size,UInt8.ofNat ps[j].i.size]++ps[j].k.data.toList)++ps[j].i.data.toList from rfl,List.append_assoc]at e;rw[FL e (by rw[List.length_append,Array.length_toList];show _=_+(2+ps[j].k.size);omega) (by rw[Array.length_toList];rfl),L3]
theorem Dq.tail (h:Dq t ps z) (hn:szL ps<t.size):t[szL ps]=0:=by
 have e:t.data.toList.drop (szL ps)=List.replicate z 0:=by rw[h.data,<-Fu,List.drop_left]
 have hz:=h.size;exact CC (b:=0) (x:=0) e (by rw[List.getElem?_replicate,if_pos (by omega)]) hn
end
theorem Ey (t:ByteArray) (n:Nat) (hn:n<t.size) (b:Nat) (hb:(t[n]).toNat=b) (w:World):(Instr.index 9 (.string t) (.int .i64 n)).run Tryz.prog w= .ok (.int .u8 b) w:=by
 have h1:(n:Int)<(t.size:Int):=by omega
 subst hb;simp[Instr.index,run_underlying Tryz.underlying9,asIntOf,go_sem,hn]
theorem I1 (t:ByteArray) (a b:Nat) (h1:a<=b) (h2:b<=t.size) (x y:Int) (hx:x=a) (hy:y=b) (p:ByteArray) (hp:t.extract a b=p) (w:World):(Instr.slice 9 (.string t) (some (.int .i64 x)) (some (.int .i64 y)) none).run Tryz.prog w= .ok (.string p) w:=by
 subst hx hy;rw[run_slice_string w 9 t .i64 .i64 a b Tryz.underlying9 (by omega) (by omega) (by omega)];simp[hp]
theorem Gj {fid:Nat} {caps:Array Value} {t:ByteArray} {ps:List Pr} {z:Nat} (Inv:Nat->World->Prop) (Out:World->Prop) (eg:∀args w,(callFunc fid args).run Tryz.prog w= .ok (.enter fid args) w) (hL:Dq t ps z) (hdrew:∀j w,Inv j w->Inv j w.drew)
  (hcb:∀j (hj:j<ps.length) (w:World),Inv j w->Calls Tryz.prog fid (#[.agg #[.string ps[j].k,.string ps[j].i],.int .i64 (szL (ps.take (j+1)):Nat)]++caps) w fun e w'=>∃b,e= .returned (.bool b)/\(if b then Inv (j+1) w' else Out w'))
  (w:World) (h0:Inv 0 w):
  Calls Tryz.prog 169 #[.string t,.func (.func fid) #[] caps] w fun e w'=>∃b,e= .returned (.bool b)/\(if b then Inv ps.length w' else Out w'):=by
 have HL:Hid _:=hL;have HC:Hid _:=hcb;have HI:Hid (Inv 0 w):=h0;have hsm:=hL.small;have HSZ:Hid _:=hL.size;clear hcb h0 hL;go_enter Tryz.func169,Tryz.ntmps169;go_wp2_with fail;go_loopw [5] (fun i wr=>∃k:Nat,k<=ps.length/\i= .int .i64 (szL (ps.take k):Nat)/\Hid (Inv k wr)) (fun i _=>t.size+1-(intOf i).toNat)
 case atStart=>exact⟨0,Nat.zero_le _,rfl,HI⟩
 case round=>
  clear HI;obtain⟨k,hk,rfl,HI⟩:=hrel
  by_cases hlt:k<ps.length
  ·have r:=HL.out.room hlt
   have ok:=HL.out.ok _ (List.getElem_mem hlt);have kl:=HL.out.key_len hlt (by unfold Pr.sz at r;omega);have il:=HL.out.item_len hlt (by unfold Pr.sz at r;omega);have ke:=HL.out.key hlt;have ie:=HL.out.item hlt;have cb:=HC.out k hlt;rw[Bj hlt]at cb;have HS:Hid (szL (ps.take (k+1))=szL (ps.take k)+ps[k].sz):=Bj hlt;unfold Pr.Ok at ok;obtain⟨ok1,ok2,ok3⟩:=ok;have r2:szL (ps.take k)+(2+ps[k].k.size+ps[k].i.size)<=t.size:=r;have b0:=Ey t (szL (ps.take k)) (by omega) ps[k].k.size kl;have b1:∀w,(Instr.index 9 (.string t) (.int .i64 ((szL (ps.take k):Int)+1))).run Tryz.prog w= .ok (.int .u8 ps[k].i.size) w:=fun w=>Ey t (szL (ps.take k)+1) (by omega) ps[k].i.size il w;have HS:Hid (szL (ps.take (k+1))=szL (ps.take k)+(2+ps[k].k.size+ps[k].i.size)):=HS.out;have CB:Hid (∀(w:World),Inv k w->Calls Tryz.prog fid (#[.agg #[.string ps[k].k,.string ps[k].i],.int .i64 (szL (ps.take k)+(2+ps[k].k.size+ps[k].i.size):Nat)]++caps) w fun e w'=>∃b,e= .returned (.bool b)/\(if b then Inv (k+1) w' else Out w')):=cb;clear kl il r cb;generalize ps[k].k=xk at *;generalize ps[k].i=xi at *;generalize szL (ps.take k)=at0 at *;have s0:=I1 t (at0+2) (at0+2+xk.size) (by omega) (by omega) ((at0:Int)+2) ((at0:Int)+2+(xk.size:Int)) (by omega) (by omega) xk ke;have s1:=I1 t (at0+2+xk.size) (at0+2+xk.size+xi.size) (by omega) (by omega) ((at0:Int)+2+(xk.size:Int)) ((at0:Int)+2+(xk.size:Int)+(xi.size:Int)) (by omega) (by omega) xi ie;have hcst:Hid (((at0+(2+xk.size+xi.size):Nat):Int)=(at0:Int)+2+(xk.size:Int)+(xi.size:Int)):=by show _=_;omega
   rw[hcst.out]at CB;clear ie ke;go_wp2_with fail;have HI:Hid (Inv k wr.drew):=hdrew _ _ HI.out;have hw2:IntKind.i64.wrap ((at0:Int)+2)=(at0:Int)+2:=by simp[IntKind.wrap,IntKind.signed,IntKind.bits];omega
   go_region_held3 (fun _=>True) (exact trivial) (first|(refine(CB.out _ HI.out).mono ?_;rintro _ w2 ⟨b,rfl,h2⟩;have H2:Hid (if b then Inv (k+1) w2 else Out w2):=h2;clear h2))
   cases b
   ·go_wp2
    go_ret;exact⟨false,rfl,H2.out⟩
   ·go_wp2_with fail
    go_roundw
    case rel=>exact⟨k+1,by omega,by rw[HS.out,<-hcst.out],H2.out⟩
    case measure=>simp[intOf];omega
  ·obtain rfl:k=ps.length:=by omega
   have e1:szL (ps.take ps.length)=szL ps:=by rw[List.take_length]
   rw[e1];have hsz:=HSZ.out
   by_cases h2:szL ps+2<=t.size
   ·have b0:=Ey t (szL ps) (by omega) 0 (by rw[HL.out.tail (by omega)];rfl)
    clear hsz;have h3:(szL ps:Int)+2<=(t.size:Int):=by omega
    have h4:(szL ps:Int)<5000:=by omega
    go_wp2;go_ret
    first|exact⟨true,rfl,HI.out⟩|exact .inr ⟨rfl,HI.out⟩
   ·have h3:¬(szL ps:Int)+2<=(t.size:Int):=by omega
    have h4:(szL ps:Int)<5000:=by omega
    clear hsz;go_wp2;go_ret
    first|exact⟨true,rfl,HI.out⟩|exact .inr ⟨rfl,HI.out⟩
end
end Go.Proofs.YtgfldnaahojnlaaGreatDoor
