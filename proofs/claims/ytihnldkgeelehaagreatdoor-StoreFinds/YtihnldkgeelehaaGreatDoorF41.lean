/- StoreFinds: part 41. -/
import Derived.Test.YtihnldkgeelehaaGreatDoorF40
set_option maxRecDepth 100000
set_option maxHeartbeats 4000000
namespace Go.Proofs.YtihnldkgeelehaaGreatDoor
section
open Go.RowKit Go.Maps
section
variable {bs bc bw bp bm bd N:Nat} {tb:Nat->Nat} {w:World}
set_option maxHeartbeats 1000000
theorem LL (h:Stw bs bc bw bp (c0S bd tb) bm N w) (hN:N+9000<1000000):
  Calls Tryz.prog 10 #[.pointer (some ⟨bs,0,none⟩),.string tnm,.string anm] w fun e w'=>e= .returned .nilIface/\Stw bs bc bw bp (c1S bd tb) bm (N+40) w'/\Aa (fun b=>b=bp\/b=bm) w w':=by
 have HI:Hid _:=Sb h hN;have q0:=h.v.cell 0 (by simp);simp only[List.getElem_cons_zero]at q0;clear h;go_enter Tryz.func10,Tryz.ntmps10;go_wp2_with fail;refine(show Calls _ _ _ _ _ from HI.out).mono ?_;rintro _ w1 ⟨rfl,hs1,ho1⟩;have HS1:Hid _:=hs1;have HO1:Hid _:=ho1;have HA:Hid _:=GI hs1 (Is bd tb) rfl rfl (by omega);clear hs1 ho1 q0 HI;go_wp2_with fail;refine(show Calls _ _ _ _ _ from HA.out).mono ?_;rintro _ w2 ⟨ac,ai,lc,cc,li,ci,v,X,rfl,_,hx,hxr,hb⟩;have hX:X=[]:=List.map_eq_nil_iff.1 hxr;subst hX;obtain⟨va,vc,hv⟩:=Aj hx.row;subst hv;have hbA:Below w2.heap.size w2 (w2.alloc (.cells #[.int .i64 1,.int .i64 ((1:Nat):Int),.string tnm,.slice ac lc cc,.slice ai li ci] 92)):=(Below.refl _ _).alloc (Nat.le_refl _) _;obtain⟨W,hW⟩:∃W,w2.alloc (.cells #[.int .i64 1,.int .i64 ((1:Nat):Int),.string tnm,.slice ac lc cc,.slice ai li ci] 92)=W:=⟨_,rfl⟩;rw[hW]at hbA;have HS2:Hid (Stw bs bc bw bp (c1S bd tb) bm (N+40) W):=(HS1.out.below hb).below hbA;have HO2:Hid (Aa (fun b=>b=bp\/b=bm) w W):=HO1.out.trans (Ab (hb.trans (hbA.mono hb.size)) _) (fun _ e=> .inl e);clear hx hb hbA HA hxr HS1 HO1;go_wp2_with fail;go_loopw [36] (fun i wr=>i= .int .i64 0/\Hid (Stw bs bc bw bp (c1S bd tb) bm (N+40) wr)/\Hid (Aa (fun b=>b=bp\/b=bm) w wr)) (fun _ _=>0)
 case atStart=>exact⟨rfl,(by first|exact HS2|(subst hW;exact HS2)|(rw[<-hW]at HS2;exact HS2)),(by first|exact HO2|(subst hW;exact HO2)|(rw[<-hW]at HO2;exact HO2))⟩
 case round=>
  clear HS2 HO2;obtain⟨rfl,HS2,HO2⟩:=hrel;go_wp2;go_ret;exact⟨rfl,HS2.out,HO2.out⟩
theorem II (hg:Gl w) (h3:3<=w.heap.size):
  Calls Tryz.prog 5 #[] w fun e w'=>∃bs bc bw bp bm bd tb,e= .returned (.tuple #[.pointer (some ⟨bs,0,none⟩),.pointer (some ⟨bp,0,none⟩)])/\Stw bs bc bw bp (c1S bd tb) bm 400 w'/\w.heap.size<=bs/\w.heap.size<=bp/\w.heap.size<=bm/\Below w.heap.size w w':=by
 have HO:Hid _:=RA w;have HG:Hid _:=hg;have H3:Hid _:=h3;clear hg h3;go_enter Tryz.func5,Tryz.ntmps5;go_wp2_with fail;refine(show Calls _ _ _ _ _ from HO.out).mono ?_;rintro _ w1 ⟨bp,bm,up,V,rfl,hp1,hp2,hp3,hw1,hu,hn,hb1⟩;have HOV:Hid _:=PQ hw1 hu hn (HG.out.below hb1) (by have:=H3.out;omega);have HB1:Hid (Below w.heap.size w w1):=hb1;have HP:Hid (w.heap.size<=bp/\w.heap.size<=bm):=⟨by omega,by omega⟩;clear hw1 hu hn hb1 hp1 hp2 hp3 HO;go_wp2_with fail;refine(show Calls _ _ _ _ _ from HOV.out).mono ?_;rintro _ w2 ⟨bs,bc,bw,tb,rfl,hs2,hbs,hb2⟩;have HB2:Hid (Below w.heap.size w w2):=HB1.out.trans (hb2.mono HB1.out.size);have HBS:Hid (w.heap.size<=bs):=Nat.le_trans HB1.out.size hbs;have hba:Below w2.heap.size w2 (w2.alloc (.cells #[.string ⟨#[97]⟩,.int .i64 1,.bool false,.bool false,.string ⟨#[98]⟩,.int .i64 2,.bool false,.bool true] 83)):=(Below.refl _ _).alloc (Nat.le_refl _) _
 have hcr:A8 w2.heap.size (.slice (some ⟨w2.heap.size,0,none⟩) 2 2) [Nj,In false] (w2.alloc (.cells #[.string ⟨#[97]⟩,.int .i64 1,.bool false,.bool false,.string ⟨#[98]⟩,.int .i64 2,.bool false,.bool true] 83)):=
  World.ownsRow_lit (base:=w2.heap.size) (e:=83) (size:=4) w2 #[.string ⟨#[97]⟩,.int .i64 1,.bool false,.bool false,.string ⟨#[98]⟩,.int .i64 2,.bool false,.bool true] 2 (Nat.le_refl _) (by decide) rfl
 have HS2:Hid (Stw bs bc bw bp (cE w.heap.size tb) bm 0 w2):=hs2;have q0:=HS2.out.v.cell 0 (by simp);simp only[List.getElem_cons_zero]at q0;obtain⟨W,hW⟩:∃W,w2.alloc (.cells #[.string ⟨#[97]⟩,.int .i64 1,.bool false,.bool false,.string ⟨#[98]⟩,.int .i64 2,.bool false,.bool true] 83)=W:=⟨_,rfl⟩;rw[hW]at hba hcr;have HC:Hid _:=Nf (HS2.out.below hba) hcr (by omega);have HBW:Hid (Below w.heap.size w W):=HB2.out.trans (hba.mono HB2.out.size);clear hs2 hba hcr hbs hb2;go_wp2_with fail;refine(show Calls _ _ _ _ _ from HC.out).mono ?_;rintro _ w3 ⟨rfl,hs3,ho3⟩;have HI:Hid _:=LL hs3 (by omega);have hP:=HP.out;have HB3:Hid (Below w.heap.size w w3):=Aa.below HBW.out ho3 HBW.out.size (fun i e=>by rcases e with e|e<;>omega);clear hs3 ho3 q0 hW HC;go_wp2_with fail;refine(show Calls _ _ _ _ _ from HI.out).mono ?_;rintro _ w4 ⟨rfl,hs4,ho4⟩;have HB4:Hid (Below w.heap.size w w4):=Aa.below HB3.out ho4 HB3.out.size (fun i e=>by rcases e with e|e<;>omega);have HS4:Hid (Stw bs bc bw bp (c1S w.heap.size tb) bm 400 w4):=hs4.mono (by omega);clear hs4 ho4 HI;go_wp2;go_ret2;exact⟨bs,bc,bw,bp,bm,w.heap.size,tb,rfl,HS4.out,HBS.out,HP.out.1,HP.out.2,HB4.out⟩
end
def vN (n:Int):Vl:=⟨1,n,⟨#[]⟩⟩
def vT (s:ByteArray):Vl:=⟨2,0,s⟩
theorem ID (w:World) (x y:Vl) (hx:x.s.size<=maxLen) (hy:y.s.size<=maxLen) (t:TypeId):BY (w.alloc (.cells #[.int .i64 x.k,.int .i64 x.n,.string x.s,.int .i64 y.k,.int .i64 y.n,.string y.s] t)) (some ⟨w.heap.size,0,none⟩) 2 [x,y]:=by
 have hn:(w.alloc (.cells #[.int .i64 x.k,.int .i64 x.n,.string x.s,.int .i64 y.k,.int .i64 y.n,.string y.s] t)).heap[w.heap.size]? =some (.cells #[.int .i64 x.k,.int .i64 x.n,.string x.s,.int .i64 y.k,.int .i64 y.n,.string y.s] t):=heap_alloc_new w _;refine⟨rfl,by decide,.inr ⟨w.heap.size,0,rfl,by simp,fun i hi=> ?_⟩⟩;have hi2:i<2:=hi;rcases(show i=0\/i=1 by omega)with rfl|rfl
 ·refine⟨?_,?_,?_,hx⟩<;>(simp only[World.cell?,hn];rfl)
 ·refine⟨?_,?_,?_,hy⟩<;>(simp only[World.cell?,hn];rfl)
section
variable {w:World}
theorem OO {B:Nat} {a b c:Value} {w:World} (h:Ac B [a,b,c] w):(loadVar 24 ⟨B,0,none⟩).run Tryz.prog w= .ok (.agg #[a,b,c]) w:=
 run_loadVar_mid (P:=Tryz.prog) w B 0 24 [a,b,c] _ (fun j v hv=>h.get hv) Tryz.underlying24 rfl (by kernel_rfl)
theorem Hu (n:Int) (w:World):Calls Tryz.prog 17 #[.int .i64 n] w fun e w'=>e= .returned (.agg #[.int .i64 (vN n).k,.int .i64 (vN n).n,.string (vN n).s])/\Below w.heap.size w w':=by
 have hv:=Ac.new w #[.int .i64 0,.int .i64 0,.string ⟨#[]⟩] 24 (by simp);obtain⟨W,hW⟩:∃W,w.alloc (.cells #[.int .i64 0,.int .i64 0,.string ⟨#[]⟩] 24)=W:=⟨_,rfl⟩;have hb:Below w.heap.size w W:=by rw[<-hW];exact(Below.refl _ _).alloc (Nat.le_refl _) _
 rw[hW]at hv;have f0:=hv.free 0;have f1:=hv.free 1;have f2:=hv.free 2;have d0:=hv.cell 0 (by simp);have d1:=hv.cell 1 (by simp);have d2:=hv.cell 2 (by simp);simp only[List.getElem_cons_zero,List.getElem_cons_succ]at d0 d1 d2;have HB:Hid _:=hb;have HV:Hid (Ac w.heap.size [.int .i64 0,.int .i64 0,.string ⟨#[]⟩] W):=hv;clear hb hv;go_enter Tryz.func17,Tryz.ntmps17;go_wp2;have hv2:=((HV.out.set 0 (.int .i64 1)).set 1 (.int .i64 n)).set 2 (.string ⟨#[]⟩)
 have ho:Aa (fun b=>b=w.heap.size) W (((W.setCell ⟨w.heap.size,0,none⟩ (.int .i64 1)).setCell ⟨w.heap.size,1,none⟩ (.int .i64 n)).setCell ⟨w.heap.size,2,none⟩ (.string ⟨#[]⟩)):=
  ((Aa.set _ _ _ _).trans (Aa.set _ _ _ _) (fun _ e=> .inl e)).trans (Aa.set _ _ _ _) (fun _ e=> .inl e)
 exact bodyPost_ret (Ax Tryz.results17 _ _ _ rfl (OO hv2)) rfl ⟨rfl,Aa.below HB.out ho HB.out.size (fun i e=>by rw[e];exact Nat.le_refl _)⟩
theorem Py (s:ByteArray) (w:World):Calls Tryz.prog 18 #[.string s] w fun e w'=>e= .returned (.agg #[.int .i64 (vT s).k,.int .i64 (vT s).n,.string (vT s).s])/\Below w.heap.size w w':=by
 have hv:=Ac.new w #[.int .i64 0,.int .i64 0,.string ⟨#[]⟩] 24 (by simp);obtain⟨W,hW⟩:∃W,w.alloc (.cells #[.int .i64 0,.int .i64 0,.string ⟨#[]⟩] 24)=W:=⟨_,rfl⟩;have hb:Below w.heap.size w W:=by rw[<-hW];exact(Below.refl _ _).alloc (Nat.le_refl _) _
 rw[hW]at hv;have f0:=hv.free 0;have f1:=hv.free 1;have f2:=hv.free 2;have d0:=hv.cell 0 (by simp);have d1:=hv.cell 1 (by simp);have d2:=hv.cell 2 (by simp);simp only[List.getElem_cons_zero,List.getElem_cons_succ]at d0 d1 d2;have HB:Hid _:=hb;have HV:Hid (Ac w.heap.size [.int .i64 0,.int .i64 0,.string ⟨#[]⟩] W):=hv;clear hb hv;go_enter Tryz.func18,Tryz.ntmps18;go_wp2;have hv2:=((HV.out.set 0 (.int .i64 2)).set 1 (.int .i64 0)).set 2 (.string s)
 have ho:Aa (fun b=>b=w.heap.size) W (((W.setCell ⟨w.heap.size,0,none⟩ (.int .i64 2)).setCell ⟨w.heap.size,1,none⟩ (.int .i64 0)).setCell ⟨w.heap.size,2,none⟩ (.string s)):=
  ((Aa.set _ _ _ _).trans (Aa.set _ _ _ _) (fun _ e=> .inl e)).trans (Aa.set _ _ _ _) (fun _ e=> .inl e)
 exact bodyPost_ret (Ax Tryz.results18 _ _ _ rfl (OO hv2)) rfl ⟨rfl,Aa.below HB.out ho HB.out.size (fun i e=>by rw[e];exact Nat.le_refl _)⟩
def swB:ByteArray:=⟨#[115,111,109,101,32,119,111,114,100,115]⟩
theorem Ud:okL (tbl 1 false).cs (inL (vN 5) (vT swB)):=fun i h1 h2=>by
 have hi:i<2:=h1;rcases(show i=0\/i=1 by omega)with rfl|rfl
 ·show wrE S3 (vN 5)=0
  have h:Ba (vN 5)=true:=by unfold Ba Cq vN;simp
  unfold wrE;rw[h];decide
 ·show wrE (In false) (vT swB)=0
  decide
theorem Ir:CQ (vN 5)/\CQ (vT swB):=⟨⟨by decide,by decide⟩,⟨by decide,by decide⟩⟩
theorem Ut:addE [] A2 ((1:Nat):Int) (vT swB).s=0:=by
 have hok:=NM Ud Ir.1 Ir.2 (show 1<=1/\1<256 by omega);have h1:=(Is 0 (fun _=>0)).addE hok (fun q hq=>by cases hq);have h2:=ES swB;have h3:swB.size=10:=rfl;rw[if_neg (by show ¬500<0+(Ah swB.data.toList).length;omega)]at h1;exact h1
end
section
variable {w:World}
theorem Mb.good {bs bc bw bp bm N bd:Nat} {tb:Nat->Nat} {G:Sts->Prop} {e:Ending} {ok:Value} {bad:Value->Value} {F:Prop} {w w':World} (h:Mb bs bc bw bp bm N tb bd G w e ok bad F w') (hF:¬F):∃c',G c'/\c'.tb=tb/\c'.bd=bd/\e= .returned ok/\Stw bs bc bw bp c' bm (N+4000) w'/\Aa (fun b=>b=bp\/b=bm) w w':=by
 rcases h with h|⟨h,_⟩
 ·exact h
 ·exact absurd h hF
theorem Rk:AY (fun x=>decide (0<=Da x (vN 5))) (Fg ⟨1,vN 5,vT swB⟩ [])=[((1:Nat):Int)]:=by
 have h:Da (vN 5) (vN 5)=0:=by
  unfold Da Kb QC;rw[if_pos rfl,if_pos rfl];have h1:Op.bytesLess (vN 5).s.toList (vN 5).s.toList=false:=by simp[vN,Op.bytesLess]
  rw[h1];simp
 unfold Fg AY;rw[List.filter_cons];simp only[h];rw[if_pos (by decide)];rfl
set_option maxHeartbeats 2000000
theorem RR (hg:Gl w) (h3:3<=w.heap.size):
  Calls Tryz.prog 4 #[] w fun e w'=>e= .returned (.bool true)/\Below w.heap.size w w':=by
 have HO:Hid _:=II hg h3;clear hg h3;go_enter Tryz.func4,Tryz.ntmps4;go_wp2_with fail;refine(show Calls _ _ _ _ _ from HO.out).mono ?_;rintro _ w1 ⟨bs,bc,bw,bp,bm,bd,tb,rfl,hs1,hbs,hbp,hbm,hb1⟩;have HS1:Hid (Stw bs bc bw bp (c1S bd tb) bm 400 w1):=hs1;have HB1:Hid (Below w.heap.size w w1):=hb1;have HP:Hid (w.heap.size<=bp/\w.heap.size<=bm/\bp<w1.heap.size/\bm<w1.heap.size):=⟨hbp,hbm,hs1.lt.1,hs1.lt.2.1⟩;clear hs1 hbs hbp hbm hb1 HO;go_wp2_with fail;refine(Hu 5 _).mono ?_;rintro _ w2 ⟨rfl,hb2⟩;have HB2:Hid (Below w1.heap.size w1 w2):=hb2;clear hb2;go_wp2_with fail;refine(Py _ _).mono ?_;rintro _ w3 ⟨rfl,hb3⟩;have HB3:Hid (Below w1.heap.size w1 w3):=HB2.out.trans (hb3.mono HB2.out.size);have hvr:=ID w3 (vN 5) (vT swB) (by decide) (by decide) 24;have hba:Below w3.heap.size w3 (w3.alloc (.cells #[.int .i64 (vN 5).k,.int .i64 (vN 5).n,.string (vN 5).s,.int .i64 (vT swB).k,.int .i64 (vT swB).n,.string (vT swB).s] 24)):=(Below.refl _ _).alloc (Nat.le_refl _) _;have HBA:Hid (Below w1.heap.size w1 (w3.alloc (.cells #[.int .i64 (vN 5).k,.int .i64 (vN 5).n,.string (vN 5).s,.int .i64 (vT swB).k,.int .i64 (vT swB).n,.string (vT swB).s] 24))):=HB3.out.trans (hba.mono HB3.out.size);have HIN:Hid _:=Hy (cap:=2) (HS1.out.below HBA.out) (Is bd tb) (by omega) (by omega) hvr (fun ad e=>by cases e;have:=HP.out;have:=HB3.out.size;exact⟨by show w3.heap.size≠bp;omega,by show w3.heap.size≠bm;omega⟩) (Nat.le_refl _) Ir.1 Ir.2;clear hb3 hvr hba;go_wp2_with fail;refine(show Calls _ _ _ _ _ from HIN.out).mono ?_;intro e w4 hch
 obtain⟨c',hd4,_,_,rfl,hs4,ho4⟩:=hch.good (fun e=>by
  rcases e with e|e
  ·exact e Ud
  ·exact e Ut)
 have HD4:Hid _:=hd4;have HS4:Hid (Stw bs bc bw bp c' bm (400+4000) w4):=hs4
 have HBx:Hid (Below w.heap.size w w4):=by
  have hP:=HP.out;have h1:Below w.heap.size w (w3.alloc (.cells #[.int .i64 (vN 5).k,.int .i64 (vN 5).n,.string (vN 5).s,.int .i64 (vT swB).k,.int .i64 (vT swB).n,.string (vT swB).s] 24)):=HB1.out.trans (HBA.out.mono HB1.out.size);exact Aa.below h1 ho4 h1.size (fun i e=>by rcases e with e|e<;>omega)
 clear hch hd4 hs4 ho4 HIN;go_wp2_with fail;refine(Hu 5 _).mono ?_;rintro _ w5 ⟨rfl,hb5⟩;have hvb:=Ac.new w5 #[.int .i64 (vN 5).k,.int .i64 (vN 5).n,.string (vN 5).s] 24 (by simp);have hbb:Below w5.heap.size w5 (w5.alloc (.cells #[.int .i64 (vN 5).k,.int .i64 (vN 5).n,.string (vN 5).s] 24)):=(Below.refl _ _).alloc (Nat.le_refl _) _;obtain⟨W,hW⟩:∃W,w5.alloc (.cells #[.int .i64 (vN 5).k,.int .i64 (vN 5).n,.string (vN 5).s] 24)=W:=⟨_,rfl⟩;rw[hW]at hvb hbb;have hat:At3 w5.heap.size (vN 5) W:=⟨hvb.cell 0 (by simp),hvb.cell 1 (by simp),hvb.cell 2 (by simp)⟩;have HBW:Hid (Below w.heap.size w W):=(HBx.out.trans (hb5.mono HBx.out.size)).trans (hbb.mono (by have:=HBx.out.size;have:=hb5.size;omega));have HRG:Hid _:=Ja (P:=fun x=>decide (0<=Da x (vN 5))) (J:=At3 w5.heap.size (vN 5)) (pl:= .pointer (some ⟨w5.heap.size,0,none⟩)) (ph:= .pointer none) ((HS4.out.below hb5).below hbb) HD4.out (by omega) (fun wa wb h hb=>h.below hb) hat (fun x wx h=>QQ x (vN 5) _ wx h);rw[Rk]at HRG;clear hvb hbb hat hb5;go_wp2_with fail;refine(show Calls _ _ _ _ _ from HRG.out).mono ?_;rintro _ w6 ⟨v,rfl,ho6,hb6⟩;have HB6:Hid (Below w.heap.size w w6):=HBW.out.trans (hb6.mono HBW.out.size);obtain⟨g,cap,rfl,_,_⟩:=World.ownsRow.form ho6 (by decide);have k0:=World.ownsRow.cellAt ho6 0 (by decide);have hk0:w6.cell? ⟨g,0,none⟩=some (.int .i64 1):=k0;have hln:([((1:Nat):Int)]:List Int).length=1:=rfl;rw[hln];clear ho6 hb6 k0 HRG hW hln;go_wp2;go_ret;exact⟨rfl,HB6.out⟩
end
def inP (y z:Vl) (x:Vl):Bool:=decide (0<=Da x y) && decide (Da x z<=0)
theorem VD:Tryz.prog.elem 69=3:=by kernel_rfl
theorem Vy:(sizeOf 3).run Tryz.prog=fun w=> .ok 1 w:=by funext w;simp[Tryz.sizeOf3]
theorem SY (P:Vl->Bool) (R:List Rw) {j:Nat} (hj:j<R.length) (hP:(decide (R[j].a.k≠0) && P R[j].a)=true):∃h:(AY P (R.take j)).length<(AY P R).length,(AY P R)[(AY P (R.take j)).length]=((R[j].id:Nat):Int):=by
 have e:AY P R=AY P (R.take j)++(((R[j].id:Nat):Int)::AY P (R.drop (j+1))):=by
  have h1:R=R.take j++(R[j]::R.drop (j+1)):=by
   conv=>lhs;rw[<-List.take_append_drop j R,List.drop_eq_getElem_cons hj]
  have h2:∀A B:List Rw,AY P (A++B)=AY P A++AY P B:=fun A B=>by unfold AY;rw[List.filter_append,List.map_append]
  have h3:AY P (R[j]::R.drop (j+1))=((R[j].id:Nat):Int)::AY P (R.drop (j+1)):=by
   unfold AY;rw[List.filter_cons,if_pos hP];rfl
  conv=>lhs;rw[h1]
  rw[h2,h3]
 refine⟨by rw[e,List.length_append,List.length_cons];omega,?_⟩;have:∀(L A B:List Int) (x:Int),L=A++(x::B)->∀h:A.length<L.length,L[A.length]=x:=fun L A B x he h=>by subst he;simp
 exact this _ _ _ _ e _
theorem At3.new2 (y z:Vl) (w:World):At3 w.heap.size y ((w.alloc (.cells #[.int .i64 y.k,.int .i64 y.n,.string y.s] 24)).alloc (.cells #[.int .i64 z.k,.int .i64 z.n,.string z.s] 24))/\At3 (w.heap.size+1) z ((w.alloc (.cells #[.int .i64 y.k,.int .i64 y.n,.string y.s] 24)).alloc (.cells #[.int .i64 z.k,.int .i64 z.n,.string z.s] 24)):=by
 have v1:=(Ac.new w #[.int .i64 y.k,.int .i64 y.n,.string y.s] 24 (by simp)).below ((Below.refl _ _).alloc (Nat.le_refl _) (.cells #[.int .i64 z.k,.int .i64 z.n,.string z.s] 24));have v2:=Ac.new (w.alloc (.cells #[.int .i64 y.k,.int .i64 y.n,.string y.s] 24)) #[.int .i64 z.k,.int .i64 z.n,.string z.s] 24 (by simp);rw[World.size_alloc]at v2;exact⟨⟨v1.cell 0 (by simp),v1.cell 1 (by simp),v1.cell 2 (by simp)⟩,⟨v2.cell 0 (by simp),v2.cell 1 (by simp),v2.cell 2 (by simp)⟩⟩
section
variable {bs bc bw bp bm N k nx B:Nat} {c:Sts} {R:List Rw} {ib:Bool} {D:List Nd} {w:World} {v:Value} {X:List O5}
theorem NF (h:Stw bs bc bw bp c bm N w) (hd:StD c k R nx ib D) (hk:k<200) (hx:AL B v X w) (hxr:X.map (·.r)=R) (y z:Vl) (hy:y.s.size<=maxLen) (hz:z.s.size<=maxLen):
  Calls Tryz.prog 13 #[.pointer (some ⟨bs,0,none⟩),v,.agg #[.int .i64 y.k,.int .i64 y.n,.string y.s],.agg #[.int .i64 z.k,.int .i64 z.n,.string z.s]] w fun e w'=>e= .returned (.bool true)/\Below w.heap.size w w':=by
 obtain⟨hA,hZ⟩:=At3.new2 y z w;have hb1:Below w.heap.size w ((w.alloc (.cells #[.int .i64 y.k,.int .i64 y.n,.string y.s] 24)).alloc (.cells #[.int .i64 z.k,.int .i64 z.n,.string z.s] 24)):=((Below.refl _ w).alloc (Nat.le_refl _) _).alloc (by simp) _;obtain⟨W1,hW1⟩:∃W1,(w.alloc (.cells #[.int .i64 y.k,.int .i64 y.n,.string y.s] 24)).alloc (.cells #[.int .i64 z.k,.int .i64 z.n,.string z.s] 24)=W1:=⟨_,rfl⟩;rw[hW1]at hA hZ hb1;have HA:Hid (At3 w.heap.size y W1):=hA;have HZ:Hid (At3 (w.heap.size+1) z W1):=hZ;have HB1:Hid (Below w.heap.size w W1):=hb1;have HS:Hid (Stw bs bc bw bp c bm N W1):=h.below hb1;have HX:Hid (AL B v X W1):=hx.below hb1;have HD:Hid _:=hd;have HXR:Hid (X.map (·.r)=R):=hxr;have HMX:Hid (y.s.size<=maxLen/\z.s.size<=maxLen):=⟨hy,hz⟩;obtain⟨va,vc,hv⟩:=Aj hx.row;subst hv;have a0:=HA.out.c0;have a1:=HA.out.c1;have a2:=HA.out.c2;have z0:=HZ.out.c0;have z1:=HZ.out.c1;have z2:=HZ.out.c2;clear h hd hx hxr hy hz hb1 hA hZ;go_enter Tryz.func13,Tryz.ntmps13;go_wp2_with fail;refine(E5 _ _ _ _ HMX.out.1).mono ?_;rintro _ w2 ⟨rfl,hb2⟩;have HB2:Hid (Below W1.heap.size W1 w2):=hb2;clear hb2
 cases hr1:Cq y.k y.n y.s
 ·go_wp2
  go_ret;exact⟨rfl,HB1.out.trans (HB2.out.mono HB1.out.size)⟩
 have hA2:=HA.out.below HB2.out;have hZ2:=HZ.out.below HB2.out;have a0':=hA2.c0;have a1':=hA2.c1;have a2':=hA2.c2;have z0':=hZ2.c0;have z1':=hZ2.c1;have z2':=hZ2.c2;go_wp2_with fail;refine(E5 _ _ _ _ HMX.out.2).mono ?_;rintro _ w3 ⟨rfl,hb3⟩;have HB3:Hid (Below W1.heap.size W1 w3):=HB2.out.trans (hb3.mono HB2.out.size);clear hb3 hA2 hZ2 a0 a1 a2 z0 z1 z2 a0' a1' a2' z0' z1' z2' hW1
 cases hr2:Cq z.k z.n z.s
 ·go_wp2
  go_ret;exact⟨rfl,HB1.out.trans (HB3.out.mono HB1.out.size)⟩
 have HRG:Hid _:=Ja (P:=inP y z) (J:=fun wx=>At3 w.heap.size y wx/\At3 (w.heap.size+1) z wx) (pl:= .pointer (some ⟨w.heap.size,0,none⟩)) (ph:= .pointer (some ⟨w.heap.size+1,0,none⟩)) (HS.out.below HB3.out) HD.out hk (fun wa wb h hb=>⟨h.1.below hb,h.2.below hb⟩) ⟨HA.out.below HB3.out,HZ.out.below HB3.out⟩ (fun x wx h=>QR x y z _ _ wx h.1 h.2);clear hr1 hr2;go_wp2_with fail;refine(show Calls _ _ _ _ _ from HRG.out).mono ?_;rintro _ w4 ⟨v4,rfl,ho4,hb4⟩;obtain⟨g4,c4,e4⟩:=Aj ho4;subst e4;obtain⟨m,hm⟩:∃m,(AY (inP y z) R).length=m:=⟨_,rfl⟩;obtain⟨n,hn⟩:∃n,X.length=n:=⟨_,rfl⟩;rw[hm]at ho4 ⊢;have HM:Hid _:=hm;have HO4:Hid _:=ho4;have HN:Hid (R.length=n):=by rw[<-HXR.out,List.length_map];exact hn
 have HNX:Hid (X.length=n):=hn;have HB4:Hid (Below W1.heap.size W1 w4):=HB3.out.trans (hb4.mono HB3.out.size);have HX4:Hid (AL B (.slice va X.length vc) X w4):=HX.out.below HB4.out;have HMN:Hid (m<=n/\n<250):=by have h1:=Gp (inP y z) R;rw[hm,HN.out]at h1;have:=HD.out.len;have:=HD.out.nx;have:=HN.out;exact⟨h1,by omega⟩
 rw[hn]at HX4 ⊢;clear ho4 hb4 HRG hm hn;go_wp2_with fail;go_loopw [11,12] (fun q i wr=>∃j:Nat,j<=n/\i= .int .i64 (j:Nat)/\q= .int .i64 (((AY (inP y z) (R.take j)).length:Nat):Int)/\Hid (Below w4.heap.size w4 wr)) (fun _ i _=>n+1-(intOf i).toNat)
 case atStart=>exact⟨0,Nat.zero_le _,rfl,rfl,Below.refl _ _⟩
 case round=>
  obtain⟨j,hj,rfl,rfl,HB⟩:=hrel;have hnl:=HMN.out
  by_cases hlt:j<n
  ·have h1:(j:Int)<(n:Int):=by omega
   have hjl:j<X.length:=by rw[HNX.out];exact hlt
   have hjR:j<R.length:=by rw[HN.out];exact hlt
   obtain⟨g,cap,av,cv,hv,hg,hxv,k0,k1,hov,hix⟩:=(show AL B (.slice va n vc) X wr from HX4.out.below HB.out).at hjl;rw[HNX.out]at hv hix
   cases hv
   have hXr:X[j].r=R[j]:=by
    have:=HXR.out;subst this;rw[List.getElem_map]
   rw[hXr]at k0 hov;obtain⟨gb,cb,ea,_,_⟩:=World.ownsRow.form hov (by omega);injection ea with e1 e2 e3;subst e1;have b0:wr.cell? ⟨gb,0,none⟩=some (.int .i64 R[j].a.k):=World.ownsRow.cellAt hov 0 (by omega);have b1:wr.cell? ⟨gb,1,none⟩=some (.int .i64 R[j].a.n):=World.ownsRow.cellAt hov 1 (by omega);have b2:wr.cell? ⟨gb,2,none⟩=some (.string R[j].a.s):=World.ownsRow.cellAt hov 2 (by omega);have HRT:Hid (R.take (j+1)=R.take j++[R[j]]):=List.take_succ_eq_append_getElem hjR;have HAT:Hid ((decide (R[j].a.k≠0) && inP y z R[j].a)=true->∃h:(AY (inP y z) (R.take j)).length<(AY (inP y z) R).length,(AY (inP y z) R)[(AY (inP y z) (R.take j)).length]=((R[j].id:Nat):Int)):=SY _ _ hjR;obtain⟨r,hr⟩:∃r,R[j]=r:=⟨_,rfl⟩;rw[hr]at k0 b0 b1 b2 HRT HAT
   have HSN:Hid ((AY (inP y z) (R.take (j+1))).length=(AY (inP y z) (R.take j)).length+(if(decide (r.a.k≠0) && inP y z r.a)=true then 1 else 0)):=by
    show _=_;rw[HRT.out,Kw,List.length_append];split<;>rfl
   have HQN:Hid ((AY (inP y z) (R.take j)).length<=250):=by
    have:=Gp (inP y z) (R.take j);rw[List.length_take]at this;show _<=_;omega
   obtain⟨q,hq⟩:∃q,(AY (inP y z) (R.take j)).length=q:=⟨_,rfl⟩;have HQ:Hid ((AY (inP y z) (R.take j)).length=q):=hq;rw[hq]at HSN HQN ⊢;have hva:=Ac.new wr #[.int .i64 r.a.k,.int .i64 r.a.n,.string r.a.s] 24 (by simp);have hba:Below wr.heap.size wr (wr.alloc (.cells #[.int .i64 r.a.k,.int .i64 r.a.n,.string r.a.s] 24)):=(Below.refl _ _).alloc (Nat.le_refl _) _;obtain⟨W6,hW6⟩:∃W6,wr.alloc (.cells #[.int .i64 r.a.k,.int .i64 r.a.n,.string r.a.s] 24)=W6:=⟨_,rfl⟩;rw[hW6]at hva hba;have HVA:Hid (Ac wr.heap.size [.int .i64 r.a.k,.int .i64 r.a.n,.string r.a.s] W6):=hva;have HB6:Hid (Below w4.heap.size w4 W6):=HB.out.trans (hba.mono HB.out.size);have HB16:Hid (Below W1.heap.size W1 W6):=HB4.out.trans (HB6.out.mono HB4.out.size);have HBr6:Hid (Below wr.heap.size wr W6):=hba;have v0:=HVA.out.cell 0 (by simp);have v1:=HVA.out.cell 1 (by simp);have v2:=HVA.out.cell 2 (by simp);simp only[List.getElem_cons_zero,List.getElem_cons_succ]at v0 v1 v2;have hA6:=HA.out.below HB16.out;have a0:=hA6.c0;have a1:=hA6.c1;have a2:=hA6.c2;clear hr hq hva hba hov hXr hA6 e2 e3
   by_cases hk0:r.a.k=0
   ·rw[hk0]at v0 hW6 b0
    go_wp2_with fail;refine⟨⟨j+1,by omega,by go_num,?_,HB6.out⟩,by simp[intOf];omega⟩;rw[HSN.out,if_neg (by simp[hk0]),Nat.add_zero]
   ·obtain⟨c1,hc1⟩:∃c1,Da r.a y=c1:=⟨_,rfl⟩
    have HC1:Hid _:=Cv r.a y hc1 W6;have HKK:Hid (inP y z r.a=(decide (0<=c1) && decide (Da r.a z<=0))):=by show _=_;unfold inP;rw[hc1]
    clear hc1;go_wp2_with fail;refine(show Calls _ _ _ _ _ from HC1.out).mono ?_;rintro _ w7 ⟨rfl,hb7⟩;have HB7:Hid (Below w4.heap.size w4 w7):=HB6.out.trans (hb7.mono HB6.out.size);have HBr7:Hid (Below wr.heap.size wr w7):=HBr6.out.trans (hb7.mono HBr6.out.size);have HVA7:Hid (Ac wr.heap.size [.int .i64 r.a.k,.int .i64 r.a.n,.string r.a.s] w7):=HVA.out.below hb7;have hZ7:=HZ.out.below (HB4.out.trans (HB7.out.mono HB4.out.size));have z0:=hZ7.c0;have z1:=hZ7.c1;have z2:=hZ7.c2;clear v0 v1 v2 a0 a1 a2 hb7 hZ7 hW6 HC1;have v0:=HVA7.out.cell 0 (by simp);have v1:=HVA7.out.cell 1 (by simp);have v2:=HVA7.out.cell 2 (by simp);simp only[List.getElem_cons_zero,List.getElem_cons_succ]at v0 v1 v2
    by_cases hc0:c1<0
    ·have HD0:Hid (¬(0<=c1)):=(by omega:¬(0<=c1))
     go_wp2_with fail;refine⟨⟨j+1,by omega,by go_num,?_,HB7.out⟩,by simp[intOf];omega⟩;rw[HSN.out,if_neg (by rw[HKK.out,decide_eq_false (show ¬0<=c1 by omega)];simp),Nat.add_zero]
    ·have hd0:0<=c1:=by omega
     obtain⟨c2,hc2⟩:∃c2,Da r.a z=c2:=⟨_,rfl⟩;have HC2:Hid _:=Cv r.a z hc2 w7;rw[hc2]at HKK;clear hc2;go_wp2_with fail;refine(show Calls _ _ _ _ _ from HC2.out).mono ?_;rintro _ w8 ⟨rfl,hb8⟩;have HB8:Hid (Below w4.heap.size w4 w8):=HB7.out.trans (hb8.mono HB7.out.size);have HBr8:Hid (Below wr.heap.size wr w8):=HBr7.out.trans (hb8.mono HBr7.out.size);clear v0 v1 v2 z0 z1 z2 hb8 HC2
     by_cases hc20:0<c2
     ·have HD2:Hid (¬(c2<=0)):=(by omega:¬(c2<=0))
      go_wp2_with fail;refine⟨⟨j+1,by omega,by go_num,?_,HB8.out⟩,by simp[intOf];omega⟩;rw[HSN.out,if_neg (by rw[HKK.out,decide_eq_false (show ¬c2<=0 by omega)];simp),Nat.add_zero]
     ·have hd2:c2<=0:=by omega
      have hdf:decide (0<c2)=false:=decide_eq_false hc20;have hwant:(decide (r.a.k≠0) && inP y z r.a)=true:=by rw[HKK.out];simp[hk0,hd0,hd2]
      obtain⟨hql,hqa⟩:=HAT.out hwant;have hq1:q<m:=by rw[<-HQ.out,<-HM.out];exact hql
      have HO8:Hid _:=Ag HO4.out HB8.out;obtain⟨gg,cg,eg,_,_⟩:=World.ownsRow.form HO8.out (by omega);injection eg with e1 e2 e3;subst e1
      have hcq:w8.cell? ⟨gg,q,none⟩=some (.int .i64 (r.id:Nat)):=by
       rw[World.ownsRow.cellAt HO8.out q (by omega)];unfold ic;rw[List.getElem?_map,List.getElem?_eq_getElem (by rw[HM.out];exact hq1)]
       have:(AY (inP y z) R)[q]'(by rw[HM.out];exact hq1)=((r.id:Nat):Int):=by
        rw[<-hqa];congr 1;exact HQ.out.symm
       rw[this];rfl
      have hnq:¬(m:Int)<=(q:Int):=by omega
      have D0:Hid (w8.drew.cell? ⟨gg,q,none⟩=some (.int .i64 (r.id:Nat))/\w8.drew.cell? ⟨g,2 * j,none⟩=some (.int .i64 (r.id:Nat))):=⟨hcq,(show w8.cell? ⟨g,2 * j,none⟩=some (.int .i64 (r.id:Nat))from Ae HBr8.out k0)⟩
      have hixq:∀wx,(Instr.indexAt 69 (.slice (some ⟨gg,0,none⟩) m c4) (.int .i64 (q:Nat))).run Tryz.prog wx= .ok (.pointer (some ⟨gg,q,none⟩)) wx:=fun wx=>by
       have:=Cd Tryz.underlying69 VD Vy gg m c4 q hq1 wx;rw[Nat.one_mul]at this;exact this
      have HNQ:Hid (¬(m:Int)<=(q:Int)):=hnq;clear e2 e3 hcq k0 b0 b1 b2 k1;go_wp2_with fail
      ·rename_i hbad
       rcases hbad with e|e
       ·exact absurd (by simpa using e) hk0
       ·omega
      ·refine wp_region_held_drew (S:=fun wx=>wx.cell? ⟨gg,q,none⟩=some (.int .i64 (r.id:Nat))/\wx.cell? ⟨g,2 * j,none⟩=some (.int .i64 (r.id:Nat))) (by kernel_rfl) (D0.out) ?_
       intro g0;refine wpAnyH_take (i:=0) (oi:={dst:=some 57,op:=Op.move (Operand.tmp 11),type:=3,pos:= "keep.go:1075",after:= #[],guard:=none}) (v:=(.int .i64 ((q:Nat):Int))) rfl (by kernel_rfl) (by kernel_rfl) (by kernel_rfl) (fun _ _ _ h=>h) (Or.inl ⟨by rfl,fun wx _=>by go_simp⟩) g0 ?_;simp only[Act.put,List.setIfInBounds_toArray,List.set_cons_zero,List.set_cons_succ];refine wpAnyH_take (i:=1) (oi:={dst:=some 58,op:=Op.move (Operand.tmp 9),type:=69,pos:= "keep.go:1075",after:= #[],guard:=none}) (v:=(.slice (some ⟨gg,0,none⟩) m c4)) rfl (by kernel_rfl) (by kernel_rfl) (by kernel_rfl) (fun _ _ _ h=>h) (Or.inl ⟨by rfl,fun wx _=>by go_simp⟩) g0 ?_;simp only[Act.put,List.setIfInBounds_toArray,List.set_cons_zero,List.set_cons_succ];refine wpAnyH_take (i:=2) (oi:={dst:=some 59,op:=Op.call {callee:=Callee.builtin Builtin.len,args:= #[Operand.tmp 58],argTypes:= #[69]},type:=3,pos:= "keep.go:1075",after:= #[{on:=1,ground:=Ground.data}],guard:=none}) (v:=(.int .i64 ((m:Nat):Int))) rfl (by kernel_rfl) (by kernel_rfl) (by kernel_rfl) (fun _ _ _ h=>h) (Or.inl ⟨by rfl,fun wx _=>by go_simp⟩) g0 ?_;simp only[Act.put,List.setIfInBounds_toArray,List.set_cons_zero,List.set_cons_succ];refine wpAnyH_take (i:=3) (oi:={dst:=some 60,op:=Op.binOp BinOp.geq 3 (Operand.tmp 57) (Operand.tmp 59) 3,type:=4,pos:= "keep.go:1075",after:= #[{on:=0,ground:=Ground.data},{on:=2,ground:=Ground.data}],guard:=none}) (v:=(.bool false)) rfl (by kernel_rfl) (by kernel_rfl) (by kernel_rfl) (fun _ _ _ h=>h) (Or.inl ⟨by rfl,fun wx h=>by have h8:=HNQ.out;go_simp⟩) g0 ?_;simp only[Act.put,List.setIfInBounds_toArray,List.set_cons_zero,List.set_cons_succ];refine wpAnyH_take (i:=4) (oi:={dst:=some 61,op:=Op.move (Operand.tmp 60),type:=4,pos:= "keep.go:1075",after:= #[{on:=3,ground:=Ground.data}],guard:=none}) (v:=(.bool false)) rfl (by kernel_rfl) (by kernel_rfl) (by kernel_rfl) (fun _ _ _ h=>h) (Or.inl ⟨by rfl,fun wx _=>by go_simp⟩) g0 ?_;simp only[Act.put,List.setIfInBounds_toArray,List.set_cons_zero,List.set_cons_succ];refine wpAnyH_take (i:=5) (oi:={dst:=some 62,op:=Op.move (Operand.tmp 9),type:=69,pos:= "keep.go:1075",after:= #[{on:=4,ground:=Ground.guard}],guard:=some (4,false)}) (v:=(.slice (some ⟨gg,0,none⟩) m c4)) rfl (by kernel_rfl) (by kernel_rfl) (by kernel_rfl) (fun _ _ _ h=>h) (Or.inl ⟨by rfl,fun wx _=>by go_simp⟩) g0 ?_;simp only[Act.put,List.setIfInBounds_toArray,List.set_cons_zero,List.set_cons_succ];refine wpAnyH_take (i:=6) (oi:={dst:=some 63,op:=Op.move (Operand.tmp 11),type:=3,pos:= "keep.go:1075",after:= #[{on:=4,ground:=Ground.guard}],guard:=some (4,false)}) (v:=(.int .i64 ((q:Nat):Int))) rfl (by kernel_rfl) (by kernel_rfl) (by kernel_rfl) (fun _ _ _ h=>h) (Or.inl ⟨by rfl,fun wx _=>by go_simp⟩) g0 ?_;simp only[Act.put,List.setIfInBounds_toArray,List.set_cons_zero,List.set_cons_succ];refine wpAnyH_take (i:=7) (oi:={dst:=some 64,op:=Op.indexAddr 69 (Operand.tmp 62) (Operand.tmp 63),type:=0,pos:= "keep.go:1075",after:= #[{on:=5,ground:=Ground.data},{on:=6,ground:=Ground.data},{on:=4,ground:=Ground.guard}],guard:=some (4,false)}) (v:=(.pointer (some ⟨gg,q,none⟩))) rfl (by kernel_rfl) (by kernel_rfl) (by kernel_rfl) (fun _ _ _ h=>h) (Or.inl ⟨by rfl,fun wx h=>by have h8:=hixq wx;go_simp⟩) g0 ?_;simp only[Act.put,List.setIfInBounds_toArray,List.set_cons_zero,List.set_cons_succ];refine wpAnyH_take (i:=8) (oi:={dst:=some 65,op:=Op.load 3 (Operand.tmp 64),type:=3,pos:= "keep.go:1075",after:= #[{on:=7,ground:=Ground.data},{on:=4,ground:=Ground.guard}],guard:=some (4,false)}) (v:=(.int .i64 ((r.id:Nat):Int))) rfl (by kernel_rfl) (by kernel_rfl) (by kernel_rfl) (fun _ _ _ h=>h) (Or.inl ⟨by rfl,fun wx h=>by have h8:=h;go_simp⟩) g0 ?_;simp only[Act.put,List.setIfInBounds_toArray,List.set_cons_zero,List.set_cons_succ];refine wpAnyH_take (i:=9) (oi:={dst:=some 66,op:=Op.move (Operand.tmp 1),type:=51,pos:= "keep.go:1075",after:= #[{on:=4,ground:=Ground.guard}],guard:=some (4,false)}) (v:=(.slice (some ⟨g,0,none⟩) n vc)) rfl (by kernel_rfl) (by kernel_rfl) (by kernel_rfl) (fun _ _ _ h=>h) (Or.inl ⟨by rfl,fun wx _=>by go_simp⟩) g0 ?_;simp only[Act.put,List.setIfInBounds_toArray,List.set_cons_zero,List.set_cons_succ];refine wpAnyH_take (i:=10) (oi:={dst:=some 67,op:=Op.move (Operand.tmp 12),type:=3,pos:= "keep.go:1075",after:= #[{on:=4,ground:=Ground.guard}],guard:=some (4,false)}) (v:=(.int .i64 ((j:Nat):Int))) rfl (by kernel_rfl) (by kernel_rfl) (by kernel_rfl) (fun _ _ _ h=>h) (Or.inl ⟨by rfl,fun wx _=>by go_simp⟩) g0 ?_;simp only[Act.put,List.setIfInBounds_toArray,List.set_cons_zero,List.set_cons_succ];refine wpAnyH_take (i:=11) (oi:={dst:=some 68,op:=Op.indexAddr 51 (Operand.tmp 66) (Operand.tmp 67),type:=0,pos:= "keep.go:1075",after:= #[{on:=9,ground:=Ground.data},{on:=10,ground:=Ground.data},{on:=4,ground:=Ground.guard}],guard:=some (4,false)}) (v:=(.pointer (some ⟨g,2 * j,none⟩))) rfl (by kernel_rfl) (by kernel_rfl) (by kernel_rfl) (fun _ _ _ h=>h) (Or.inl ⟨by rfl,fun wx h=>by have h8:=hix wx;go_simp⟩) g0 ?_;simp only[Act.put,List.setIfInBounds_toArray,List.set_cons_zero,List.set_cons_succ];refine wpAnyH_take (i:=12) (oi:={dst:=some 69,op:=Op.fieldAddr 57 (Operand.tmp 68) 0,type:=0,pos:= "keep.go:1075",after:= #[{on:=11,ground:=Ground.data},{on:=4,ground:=Ground.guard}],guard:=some (4,false)}) (v:=(.pointer (some ⟨g,2 * j,none⟩))) rfl (by kernel_rfl) (by kernel_rfl) (by kernel_rfl) (fun _ _ _ h=>h) (Or.inl ⟨by rfl,fun wx _=>by go_simp⟩) g0 ?_;simp only[Act.put,List.setIfInBounds_toArray,List.set_cons_zero,List.set_cons_succ];refine wpAnyH_take (i:=13) (oi:={dst:=some 70,op:=Op.load 3 (Operand.tmp 69),type:=3,pos:= "keep.go:1075",after:= #[{on:=12,ground:=Ground.data},{on:=4,ground:=Ground.guard}],guard:=some (4,false)}) (v:=(.int .i64 ((r.id:Nat):Int))) rfl (by kernel_rfl) (by kernel_rfl) (by kernel_rfl) (fun _ _ _ h=>h) (Or.inl ⟨by rfl,fun wx h=>by have h8:=h;go_simp⟩) g0 ?_;simp only[Act.put,List.setIfInBounds_toArray,List.set_cons_zero,List.set_cons_succ];refine wpAnyH_take (i:=14) (oi:={dst:=some 71,op:=Op.binOp BinOp.neq 3 (Operand.tmp 65) (Operand.tmp 70) 3,type:=4,pos:= "keep.go:1075",after:= #[{on:=8,ground:=Ground.data},{on:=13,ground:=Ground.data},{on:=4,ground:=Ground.guard}],guard:=some (4,false)}) (v:=(.bool false)) rfl (by kernel_rfl) (by kernel_rfl) (by kernel_rfl) (fun _ _ _ h=>h) (Or.inl ⟨by rfl,fun wx _=>by go_simp⟩) g0 ?_;simp only[Act.put,List.setIfInBounds_toArray,List.set_cons_zero,List.set_cons_succ];refine wpAnyH_take (i:=15) (oi:={dst:=some 72,op:=Op.pick (Operand.tmp 61) (Operand.const (Value.bool true)) (Operand.tmp 71),type:=4,pos:= "keep.go:1075",after:= #[{on:=4,ground:=Ground.data},{on:=14,ground:=Ground.data}],guard:=none}) (v:=(.bool false)) rfl (by kernel_rfl) (by kernel_rfl) (by kernel_rfl) (fun _ _ _ h=>h) (Or.inl ⟨by rfl,fun wx _=>by go_simp⟩) g0 ?_;simp only[Act.put,List.setIfInBounds_toArray,List.set_cons_zero,List.set_cons_succ];refine wpAnyH_done (by kernel_rfl) ?_ _;go_wp2_with fail;refine⟨⟨j+1,by omega,by go_num,?_,Below.drew HB8.out⟩,by simp[intOf];omega⟩;rw[HSN.out,if_pos hwant];go_num
  ·have h1:¬(j:Int)<(n:Int):=by omega
   obtain rfl:n=j:=by omega
   have hq:(AY (inP y z) (R.take n)).length=m:=by rw[List.take_of_length_le (by have:=HN.out;omega)];exact HM.out
   rw[hq];go_wp2;go_ret;exact⟨by simp,HB1.out.trans ((HB4.out.trans (HB.out.mono HB4.out.size)).mono HB1.out.size)⟩
end
def FW:Pl->List Pl->Pl
 |p,[]=>p
 |_,q::l=>FW q l
theorem Gv:∀(a b:List Pl) (p:Pl),As p (a++b)=(As p a && As (FW p a) b)
 | [],b,p=>by simp[As,FW]
 |q::a,b,p=>by rw[List.cons_append,As,As,Gv a b q,FW,Bool.and_assoc]
theorem Js:∀(l:List Pl) (p:Pl),0<l.length->FW p l∈l
 | [],_,h=>absurd h (by simp)
 | [q],_,_=>by simp[FW]
 |q::q'::l,_,_=>by
  rw[FW];exact List.mem_cons_of_mem _ (Js (q'::l) q (by simp))
theorem FP {nm wd:ByteArray}:∀(L:List Pc) (p:Pl),TW L->(∀c∈L,c.Ok)->0<=p.r->(∀c∈L,c.n=nm->c.w=wd->p.r<(c.r:Int))->As p (Cr nm wd L)=true
 | [],_,_,_,_,_=>rfl
 |c::l,p,ho,hL,h0,hp=>by
  unfold TW at ho;rw[List.pairwise_cons]at ho;unfold Cr
  by_cases e:c.n=nm/\c.w=wd
  ·rw[if_pos e,Gv,Bool.and_eq_true]
   have hok:=hL c (by simp);have hl:=hok.ris.row _ (Js c.l p hok.pos);refine⟨IS hok.lo hok.hi c.l p hok.ris (.inr ⟨h0,hp c (by simp) e.1 e.2⟩),FP l _ ho.2 (fun d hd=>hL d (by simp[hd])) (by rw[hl.1];omega) (fun d hd hn hw=> ?_)⟩;rw[hl.1];rcases ho.1 d hd with h|⟨_,h|⟨_,h⟩⟩
   ·rw[e.1,hn,Ar]at h;cases h
   ·rw[e.2,hw,Ar]at h;cases h
   ·omega
  ·rw[if_neg e]
   exact FP l p ho.2 (fun d hd=>hL d (by simp[hd])) h0 (fun d hd=>hp d (by simp[hd]))
theorem Jm {nm wd:ByteArray} {p:Pl}:∀ {L:List Pc},p∈Cr nm wd L↔∃c∈L,c.n=nm/\c.w=wd/\p∈c.l
 | []=>by simp[Cr]
 |c::l=>by
  unfold Cr
  by_cases e:c.n=nm/\c.w=wd
  ·rw[if_pos e,List.mem_append,Jm (L:=l)]
   constructor
   ·rintro(h|⟨d,hd,h⟩)
    ·exact⟨c,by simp,e.1,e.2,h⟩
    ·exact⟨d,by simp[hd],h⟩
   ·rintro⟨d,hd,h1,h2,h3⟩
    rcases List.mem_cons.1 hd with rfl|hd
    ·exact .inl h3
    ·exact .inr ⟨d,hd,h1,h2,h3⟩
  ·rw[if_neg e,Jm (L:=l)]
   constructor
   ·rintro⟨d,hd,h⟩;exact⟨d,by simp[hd],h⟩
   ·rintro⟨d,hd,h1,h2,h3⟩
    rcases List.mem_cons.1 hd with rfl|hd
    ·exact absurd ⟨h1,h2⟩ e
    ·exact⟨d,hd,h1,h2,h3⟩
structure Pj (D:List Nd) (nm wd:ByteArray) (ps:List Pl):Prop where
 right:DG ps=true
 mem:∀p,p∈ps↔∃d∈D,d.n=nm/\d.w=wd/\p=d.pl
 len:ps.length<=D.length
theorem UC {D:List Nd} {L:List Pc} (hD:Nts D) (h:LsD D L) (nm wd:ByteArray):Pj D nm wd (Cr nm wd L):=by
 refine⟨FP L ⟨0,0⟩ (h.ord hD.ok) (h.ok hD.ok) (Int.le_refl _) (fun c hc _ _=>by have:=(h.ok hD.ok c hc).lo;show(0:Int)<(c.r:Int);omega),fun p=> ?_,by rw[<-h.cnt hD.ok];exact Gy nm wd L⟩;rw[Jm];constructor
 ·rintro⟨c,hc,h1,h2,h3⟩
  obtain⟨d,hd,rfl⟩:=h.of c hc;obtain⟨e,he,a1,a2,a3,rfl⟩:=G4.1 h3;exact⟨e,he,a1.trans h1,a2.trans h2,rfl⟩
 ·rintro⟨d,hd,h1,h2,rfl⟩
  exact⟨pcD D d,h.all d hd,h1,h2,G4.2 ⟨d,hd,rfl,rfl,rfl,rfl⟩⟩
section
variable {bf bt bp:Nat} {bd:Sts} {bm N:Nat} {w:World} {D:List Nd}
end
end
end Go.Proofs.YtihnldkgeelehaaGreatDoor
