/- StoreFinds: part 40. -/
import Derived.Test.YtihnldkgeelehaaGreatDoorF39
import Derived.Sort.OwnSortedInts
set_option maxRecDepth 100000
set_option maxHeartbeats 4000000
namespace Go.Proofs.YtihnldkgeelehaaGreatDoor
section
open Go.RowKit Go.Maps
section
variable {bs bc bw bp bm N k nx:Nat} {c:Sts} {R:List Rw} {D:List Nd} {w:World}
theorem LK (h:Stw bs bc bw bp c bm N w) (hd:StD c k R nx true D) (hk:k<100) (hN:N+9000<1000000):
  Calls Tryz.prog 10 #[.pointer (some ⟨bs,0,none⟩),.string tnm,.string bnm] w fun e w'=>e= .returned (.iface 101 (.int .i64 9))/\Below w.heap.size w w':=by
 have HI:Hid _:=MT h hd hk hN;have q0:=h.v.cell 0 (by simp);simp only[List.getElem_cons_zero]at q0;clear h hd;go_enter Tryz.func10,Tryz.ntmps10;go_wp2_with fail;refine(show Calls _ _ _ _ _ from HI.out).mono ?_;rintro _ w1 (⟨_,rfl,hb1⟩|⟨e1,_⟩)
 ·have HB1:Hid _:=hb1
  clear hb1 q0;go_wp2;go_ret;exact⟨rfl,HB1.out⟩
 ·cases e1
theorem Od (h:Stw bs bc bw bp c bm N w) (hd:StD c k R nx false D) (hk:k<100) (hR:R.length<=60) (hN:N+9000<1000000):
  Calls Tryz.prog 10 #[.pointer (some ⟨bs,0,none⟩),.string tnm,.string bnm] w fun e w'=>e= .returned .nilIface/\Stw bs bc bw bp (cJ c R nx R.length) bm (N+4000) w'/\Aa (fun b=>b=bp\/b=bm) w w':=by
 have HI:Hid _:=MT h hd hk hN;have HD:Hid _:=hd;have HL:Hid (bp<w.heap.size/\bm<w.heap.size):=⟨h.lt.1,h.lt.2.1⟩;have HDN:Hid _:=Pe hd hk;have q0:=h.v.cell 0 (by simp);simp only[List.getElem_cons_zero]at q0;clear h hd;go_enter Tryz.func10,Tryz.ntmps10;go_wp2_with fail;refine(show Calls _ _ _ _ _ from HI.out).mono ?_;rintro _ w1 (⟨e1,_⟩|⟨_,rfl,hs1,ho1⟩)
 ·cases e1
 have HS1:Hid (Stw bs bc bw bp (cX c nx) bm (N+40) w1):=hs1;have HO1:Hid (Aa (fun b=>b=bp\/b=bm) w w1):=ho1;have HA:Hid _:=GI (c':=cJ c R nx R.length) hs1 HDN.out rfl rfl (by omega);clear hs1 ho1 q0 HI;go_wp2_with fail;refine(show Calls _ _ _ _ _ from HA.out).mono ?_;rintro _ w2 ⟨ac,ai,lc,cc,li,ci,v,X,rfl,he2,hx2,hxr,hb2⟩;obtain⟨n,hn⟩:∃n,X.length=n:=⟨_,rfl⟩;have HN:Hid (X.length=n):=hn;have HXR:Hid (X.map (·.r)=R):=hxr;obtain⟨va,vc,hv⟩:=Aj hx2.row;rw[hn]at hv;subst hv;have hlc:lc=2:=he2.ll.1.symm;subst hlc;have HLR:Hid (R.length=n):=by rw[<-hxr,List.length_map,hn];exact rfl
 have hbA:Below w2.heap.size w2 (w2.alloc (.cells #[.int .i64 1,.int .i64 (nx:Nat),.string tnm,.slice ac 2 cc,.slice ai li ci] 92)):=(Below.refl _ _).alloc (Nat.le_refl _) _;have HV8:Hid (Ac w2.heap.size [.int .i64 1,.int .i64 (nx:Nat),.string tnm,.slice ac 2 cc,.slice ai li ci] (w2.alloc (.cells #[.int .i64 1,.int .i64 (nx:Nat),.string tnm,.slice ac 2 cc,.slice ai li ci] 92))):=Ac.new w2 #[.int .i64 1,.int .i64 (nx:Nat),.string tnm,.slice ac 2 cc,.slice ai li ci] 92 (by simp);have HE:Hid (Cm w1.heap.size (tbl nx true) ac ai 2 cc li ci (w2.alloc (.cells #[.int .i64 1,.int .i64 (nx:Nat),.string tnm,.slice ac 2 cc,.slice ai li ci] 92))):=he2.below hbA;have HX:Hid (AL w1.heap.size (.slice va n vc) X (w2.alloc (.cells #[.int .i64 1,.int .i64 (nx:Nat),.string tnm,.slice ac 2 cc,.slice ai li ci] 92))):=hx2.below hbA
 have HS2:Hid (Stw bs bc bw bp (cJ c R nx 0) bm (N+40+40 * 0) (w2.alloc (.cells #[.int .i64 1,.int .i64 (nx:Nat),.string tnm,.slice ac 2 cc,.slice ai li ci] 92))):=by
  refine((HS1.out.below hb2).below hbA).iff rfl rfl (fun s hs x=> ?_) (fun s hs=> ?_)
  ·by_cases e:s=2
   ·subst e
    show c.M 2 x↔ixM c R 0 x;unfold ixM;simp
   ·show(cX c nx).M s x↔(if s=2 then _ else(cX c nx).M s) x
    rw[if_neg e]
  ·by_cases e:s=2
   ·subst e
    show c.Z 2<=c.Z 2+60 * 0;omega
   ·show(cX c nx).Z s<=(if s=2 then _ else(cX c nx).Z s)
    rw[if_neg e];exact Nat.le_refl _
 have HOA:Hid (Aa (fun b=>b=bp\/b=bm) w (w2.alloc (.cells #[.int .i64 1,.int .i64 (nx:Nat),.string tnm,.slice ac 2 cc,.slice ai li ci] 92))):=HO1.out.trans (Ab (hb2.trans (hbA.mono hb2.size)) _) (fun _ e=> .inl e);have HSZ:Hid (w.heap.size<=w1.heap.size/\w1.heap.size<=w2.heap.size):=⟨HO1.out.size,hb2.size⟩;clear he2 hx2 hxr hb2 hbA hn HA HS1 HO1;go_wp2_with fail;go_loopw [36] (fun i wr=>∃j:Nat,j<=n/\i= .int .i64 (j:Nat)/\Hid (Stw bs bc bw bp (cJ c R nx j) bm (N+40+40 * j) wr)/\Hid (Ac w2.heap.size [.int .i64 1,.int .i64 (nx:Nat),.string tnm,.slice ac 2 cc,.slice ai li ci] wr)/\Hid (Cm w1.heap.size (tbl nx true) ac ai 2 cc li ci wr)/\Hid (AL w1.heap.size (.slice va n vc) X wr)/\Hid (Aa (fun b=>b=bp\/b=bm) w wr)) (fun i _=>n+1-(intOf i).toNat)
 case atStart=>exact⟨0,Nat.zero_le _,rfl,HS2,HV8,HE,HX,HOA⟩
 case round=>
  clear HS2 HV8 HE HX HOA;obtain⟨j,hj,rfl,HS,HV,HE,HX,HO⟩:=hrel;have hnl:n<250:=by have:=HLR.out;omega
  by_cases hlt:j<n
  ·have h1:(j:Int)<(n:Int):=by omega
   have hjl:j<X.length:=by rw[HN.out];exact hlt
   have hjR:j<R.length:=by rw[HLR.out];exact hlt
   obtain⟨g,cap,av,cv,hv,hg,hxv,k0,k1,hov,hix⟩:=HX.out.at hjl;rw[HN.out]at hv hix
   cases hv
   have hXr:X[j].r=R[j]:=by
    have:=HXR.out;subst this;rw[List.getElem_map]
   rw[hXr]at k0 hov;have HOK:Hid (R[j].Ok):=(HD.out.ok _ (List.getElem_mem hjR)).1;have HSTEP:Hid _:=fun x=>RU HD.out hjR x;obtain⟨r,hr⟩:∃r,R[j]=r:=⟨_,rfl⟩;rw[hr]at k0 hov HOK HSTEP;have hltw:=HS.out.lt;have hvr:DY av cv bp bm r wr:=Ho hov (by have:=HL.out;have:=HSZ.out;omega) HOK.out;have hbp:Below wr.heap.size wr (wr.alloc (.cells #[.int .i64 (r.id:Nat),.slice av 2 cv] 57)):=(Below.refl _ _).alloc (Nat.le_refl _) _;have hv12:=Ac.new wr #[.int .i64 (r.id:Nat),.slice av 2 cv] 57 (by simp);obtain⟨W6,hW6⟩:∃W6,wr.alloc (.cells #[.int .i64 (r.id:Nat),.slice av 2 cv] 57)=W6:=⟨_,rfl⟩;rw[hW6]at hbp hv12;have HV12:Hid (Ac wr.heap.size [.int .i64 (r.id:Nat),.slice av 2 cv] W6.drew):=hv12.drew;have HB6:Hid (Below wr.heap.size wr W6.drew):=hbp.drew;have HV6:Hid (Ac w2.heap.size [.int .i64 1,.int .i64 (nx:Nat),.string tnm,.slice ac 2 cc,.slice ai li ci] W6.drew):=HV.out.below HB6.out;have HS6:Hid (Stw bs bc bw bp (cJ c R nx j) bm (N+40+40 * j) W6.drew):=HS.out.below HB6.out;have HE6:Hid (Cm w1.heap.size (tbl nx true) ac ai 2 cc li ci W6.drew):=HE.out.below HB6.out;have HR6:Hid (DY av cv bp bm r W6.drew):=hvr.below HB6.out;clear hr hXr hov hxv hvr hbp hv12 hltw;go_wp2_with fail;have HCOL:Hid (∀wx,Below W6.drew.heap.size W6.drew wx->Calls Tryz.prog 35 #[.agg #[.int .i64 1,.int .i64 (nx:Nat),.string tnm,.slice ac 2 cc,.slice ai li ci],.string bnm] wx fun e w'=>e= .returned (.int .i64 1)/\Below wx.heap.size wx w'):=fun wx hb=>Sx wx (HE6.out.below hb);have HNB:Hid (∀b,w2.heap.size<=b->¬(b=bp\/b=bm)):=fun b hb e=>by have:=HL.out;have:=HSZ.out;rcases e with e|e<;>omega
   have HWR:Hid (w2.heap.size<=wr.heap.size):=by have:=HV.out.lt;show _<=_;omega
   have hzz:=HD.out.z2;simp only[Bool.false_eq_true,if_false]at hzz
   have HIX:Hid (∀wx,Below W6.drew.heap.size W6.drew wx->Calls Tryz.prog 34 #[.pointer (some ⟨bs,0,none⟩),.agg #[.int .i64 1,.int .i64 (nx:Nat),.string tnm,.slice ac 2 cc,.slice ai li ci],.agg #[.int .i64 (r.id:Nat),.slice av 2 cv],.int .i64 1] wx fun e w'=>e= .returned .nilIface/\Stw bs bc bw bp ((cJ c R nx j).put 2 (Dn ((cJ c R nx j).M 2) (ikP 1 1 r)) ((cJ c R nx j).Z 2+60)) bm (N+40+40 * j+40) w'/\Aa (fun b=>b=bp\/b=bm) wx w'):=fun wx hb=>
    Jy (HS6.out.below hb) (HR6.out.below hb).vr HOK.out HR6.out.cv 1 (by omega) (nx:Nat) tnm ac ai 2 cc li ci 1 (by show c.Z 2+60 * j+60<=30000;omega) (by omega)
   have cc5:=HV6.out.c5;have kk0:=HV12.out.cell 0 (by simp);have kk1:=HV12.out.cell 1 (by simp);simp only[List.getElem_cons_zero,List.getElem_cons_succ]at kk0 kk1;have D0:Hid (W6.drew.cell? ⟨w2.heap.size,0,none⟩=some (.int .i64 1)/\W6.drew.cell? ⟨w2.heap.size,1,none⟩=some (.int .i64 (nx:Nat))/\W6.drew.cell? ⟨w2.heap.size,2,none⟩=some (.string tnm)/\W6.drew.cell? ⟨w2.heap.size,3,none⟩=some (.slice ac 2 cc)/\W6.drew.cell? ⟨w2.heap.size,4,none⟩=some (.slice ai li ci)/\W6.drew.cell? ⟨wr.heap.size,0,none⟩=some (.int .i64 (r.id:Nat))/\W6.drew.cell? ⟨wr.heap.size,1,none⟩=some (.slice av 2 cv)):=⟨cc5.1,cc5.2.1,cc5.2.2.1,cc5.2.2.2.1,cc5.2.2.2.2,kk0,kk1⟩;clear k0 k1 kk0 kk1 cc5 hW6 hzz
   go_region_held3 (fun wx=>wx.cell? ⟨w2.heap.size,0,none⟩=some (.int .i64 1)/\wx.cell? ⟨w2.heap.size,1,none⟩=some (.int .i64 (nx:Nat))/\wx.cell? ⟨w2.heap.size,2,none⟩=some (.string tnm)/\wx.cell? ⟨w2.heap.size,3,none⟩=some (.slice ac 2 cc)/\wx.cell? ⟨w2.heap.size,4,none⟩=some (.slice ai li ci)/\wx.cell? ⟨wr.heap.size,0,none⟩=some (.int .i64 (r.id:Nat))/\wx.cell? ⟨wr.heap.size,1,none⟩=some (.slice av 2 cv)) (first|exact D0.out|exact D1.out|exact D2.out) (first|(go_at_call 35;refine(show Calls _ _ _ _ _ from HCOL.out _ (Below.refl _ _)).mono ?_;rintro _ w7 ⟨rfl,hb7⟩;have HB7:Hid (Below W6.drew.heap.size W6.drew w7):=hb7;have D1:Hid (w7.cell? ⟨w2.heap.size,0,none⟩=some (.int .i64 1)/\w7.cell? ⟨w2.heap.size,1,none⟩=some (.int .i64 (nx:Nat))/\w7.cell? ⟨w2.heap.size,2,none⟩=some (.string tnm)/\w7.cell? ⟨w2.heap.size,3,none⟩=some (.slice ac 2 cc)/\w7.cell? ⟨w2.heap.size,4,none⟩=some (.slice ai li ci)/\w7.cell? ⟨wr.heap.size,0,none⟩=some (.int .i64 (r.id:Nat))/\w7.cell? ⟨wr.heap.size,1,none⟩=some (.slice av 2 cv)):=⟨Ae hb7 D0.out.1,Ae hb7 D0.out.2.1,Ae hb7 D0.out.2.2.1,Ae hb7 D0.out.2.2.2.1,Ae hb7 D0.out.2.2.2.2.1,Ae hb7 D0.out.2.2.2.2.2.1,Ae hb7 D0.out.2.2.2.2.2.2⟩;clear hb7)|(go_at_call 34;refine(show Calls _ _ _ _ _ from HIX.out _ HB7.out).mono ?_;rintro _ w8 ⟨rfl,hs8,ho8⟩;have HS8:Hid _:=hs8;have HV88:Hid (Ac w2.heap.size [.int .i64 1,.int .i64 (nx:Nat),.string tnm,.slice ac 2 cc,.slice ai li ci] w8):=(HV6.out.below HB7.out).only ho8 (HNB.out _ (Nat.le_refl _));have HV128:Hid (Ac wr.heap.size [.int .i64 (r.id:Nat),.slice av 2 cv] w8):=(HV12.out.below HB7.out).only ho8 (HNB.out _ HWR.out);have D2:Hid (w8.cell? ⟨w2.heap.size,0,none⟩=some (.int .i64 1)/\w8.cell? ⟨w2.heap.size,1,none⟩=some (.int .i64 (nx:Nat))/\w8.cell? ⟨w2.heap.size,2,none⟩=some (.string tnm)/\w8.cell? ⟨w2.heap.size,3,none⟩=some (.slice ac 2 cc)/\w8.cell? ⟨w2.heap.size,4,none⟩=some (.slice ai li ci)/\w8.cell? ⟨wr.heap.size,0,none⟩=some (.int .i64 (r.id:Nat))/\w8.cell? ⟨wr.heap.size,1,none⟩=some (.slice av 2 cv)):=⟨HV88.out.c5.1,HV88.out.c5.2.1,HV88.out.c5.2.2.1,HV88.out.c5.2.2.2.1,HV88.out.c5.2.2.2.2,HV128.out.cell 0 (by simp),HV128.out.cell 1 (by simp)⟩;have HO8:Hid (Aa (fun b=>b=bp\/b=bm) W6.drew w8):=(Ab HB7.out _).trans ho8 (fun _ e=> .inl e);clear hs8 ho8))
   all_goals
    have HOw:Hid (Aa (fun b=>b=bp\/b=bm) wr w8):=(Ab HB6.out _).trans HO8.out (fun _ e=> .inl e)
    have HS9:Hid (Stw bs bc bw bp (cJ c R nx (j+1)) bm (N+40+40 * (j+1)) w8):=by
     refine(HS8.out.mono (by omega)).iff rfl rfl (fun s hs x=> ?_) (fun s hs=> ?_)
     ·by_cases e:s=2
      ·subst e
       exact HSTEP.out x
      ·show(if s=2 then _ else(if s=2 then _ else(cX c nx).M s)) x↔(if s=2 then _ else(cX c nx).M s) x
       rw[if_neg e,if_neg e,if_neg e]
     ·by_cases e:s=2
      ·subst e
       show c.Z 2+60 * j+60<=c.Z 2+60 * (j+1);omega
      ·show(if s=2 then _ else(if s=2 then _ else(cX c nx).Z s))<=(if s=2 then _ else(cX c nx).Z s)
       rw[if_neg e,if_neg e,if_neg e];exact Nat.le_refl _
    have HE8:Hid (Cm w1.heap.size (tbl nx true) ac ai 2 cc li ci w8):=HE.out.upd (by have:=HL.out;have:=HSZ.out;omega) HOw.out;have HX8:Hid _:=HX.out.only HOw.out (fun b e=>by have:=HL.out;have:=HSZ.out;rcases e with e|e<;>omega);have HOn:Hid (Aa (fun b=>b=bp\/b=bm) w w8):=HO.out.trans HOw.out (fun _ e=> .inl e);clear D0 D1 D2;go_wp2_with fail;go_roundw
    case rel=>exact⟨j+1,by omega,by go_num,HS9,HV88,HE8,HX8,HOn⟩
    case measure=>simp[intOf];omega
  ·have h1:¬(j:Int)<(n:Int):=by omega
   obtain rfl:n=j:=by omega
   have HF:Hid (Stw bs bc bw bp (cJ c R nx R.length) bm (N+4000) wr):=by
    have:=HS.out.mono (show N+40+40 * n<=N+4000 by have:=HLR.out;omega);rw[<-HLR.out]at this;exact this
   go_wp2;go_ret;exact⟨rfl,HF.out,HO.out⟩
end
section
variable {bs bc bw bp bm N k nx:Nat} {c:Sts} {R:List Rw} {ib:Bool} {D:List Nd} {w:World}
set_option maxHeartbeats 1000000
theorem P7 (h:Stw bs bc bw bp c bm N w) (hd:StD c k R nx ib D) (hk:k<200):
  Calls Tryz.prog 12 #[.pointer (some ⟨bs,0,none⟩),.string tnm] w fun e w'=>∃v X,e= .returned (.tuple #[v,.nilIface])/\AL w.heap.size v X w'/\X.map (·.r)=R/\Below w.heap.size w w':=by
 have HA:Hid _:=GI h hd rfl rfl hk;clear h hd;go_enter Tryz.func12,Tryz.ntmps12;go_wp2_with fail;refine(show Calls _ _ _ _ _ from HA.out).mono ?_;rintro _ w2 ⟨ac,ai,lc,cc,li,ci,v,X,rfl,_,hx,hxr,hb⟩;have HX:Hid _:=hx;have HXR:Hid (X.map (·.r)=R):=hxr;have HB:Hid _:=hb;clear hx hxr hb HA;go_wp2;go_ret2;have hbA:∀o,Below w2.heap.size w2 (w2.alloc o):=fun o=>(Below.refl _ _).alloc (Nat.le_refl _) o;exact⟨v,X,rfl,HX.out.below (hbA _),HXR.out,HB.out.trans ((hbA _).mono HB.out.size)⟩
end
theorem L6 {α β:Type} {f:α->β} {L M:List β} (h:L.Perm M):∀R:List α,M=R.map f->∃R':List α,R'.Perm R/\L=R'.map f:=by
 induction h with
 |nil=>intro R e;exact⟨R,List.Perm.refl _,e⟩
 |cons x _ ih=>
  intro R e
  cases R with
  |nil=>cases e
  |cons r R=>
   rw[List.map_cons]at e;injection e with e1 e2;obtain⟨R',p,q⟩:=ih R e2;exact⟨r::R',p.cons r,by rw[List.map_cons,e1,q]⟩
 |swap x y l=>
  intro R e
  match R,e with
  | [],e=>cases e
  | [_],e=>cases e
  |r::s::R,e=>
   rw[List.map_cons,List.map_cons]at e;injection e with e1 e2;injection e2 with e2 e3;exact⟨s::r::R,List.Perm.swap _ _ _,by rw[List.map_cons,List.map_cons,e1,e2,e3]⟩
 |trans _ _ ih1 ih2=>
  intro R e;obtain⟨R1,p1,q1⟩:=ih2 R e;obtain⟨R2,p2,q2⟩:=ih1 R1 q1;exact⟨R2,p2.trans p1,q2⟩
def ic (l:List Int):List Value:=l.map (Value.int .i64)
def AY (P:Vl->Bool) (R:List Rw):List Int:=(R.filter (fun r=>decide (r.a.k≠0) && P r.a)).map (fun r=>((r.id:Nat):Int))
theorem Kw (P:Vl->Bool) (R:List Rw) (r:Rw):AY P (R++[r])=AY P R++(if(decide (r.a.k≠0) && P r.a)=true then [((r.id:Nat):Int)]else []):=by
 unfold AY;rw[List.filter_append,List.map_append];congr 1
 by_cases h:(decide (r.a.k≠0) && P r.a)=true
 ·rw[if_pos h,List.filter_cons,if_pos h];rfl
 ·rw[if_neg h,List.filter_cons,if_neg h];rfl
theorem Kx (P:Vl->Bool) {R R':List Rw} (h:R'.Perm R):(AY P R').Perm (AY P R):=(h.filter _).map _
theorem Gp (P:Vl->Bool) (R:List Rw):(AY P R).length<=R.length:=by unfold AY;rw[List.length_map];exact List.length_filter_le _ _
theorem Ms (P:Vl->Bool) {R R':List Rw} (h:R'.Perm R) (hs:R.Pairwise (fun a b=>a.id<b.id)):(AY P R').mergeSort (fun x y=>decide (x<=y))=AY P R:=by
 refine List.Perm.eq_of_pairwise (le:=fun a b:Int=>a<=b) (fun a b _ _ h1 h2=>Int.le_antisymm h1 h2) ?_ ?_ ((List.mergeSort_perm _ _).trans (Kx P h))
 ·have:=List.pairwise_mergeSort (le:=fun x y:Int=>decide (x<=y)) (fun a b c h1 h2=>by simp at h1 h2 ⊢;omega) (fun a b=>by simp;omega) (AY P R')
  exact this.imp (fun h=>by simpa using h)
 ·unfold AY
  rw[List.pairwise_map];exact(hs.filter _).imp (fun h=>by omega)
theorem P4 {ss:List Int} {B:Nat} {v:Value} {w:World} (h:w.ownsRow B 3 1 v ss.length (ic ss)) (hl:ss.length<=1000000):
  Calls Tryz.prog 48 #[v] w fun e w'=>e= .returned (.tuple #[])/\w'.ownsRow B 3 1 v ss.length (ic (ss.mergeSort (fun x y=>decide (x<=y))))/\Aa (fun b=>B<=b) w w':=by
 rcases h.2 with⟨rfl,h0⟩|⟨g,cap,cur,rfl,hB,hb,h1,h2,h3,h4⟩
 ·refine(Tryz.slices_Sort_int_none none 0 w).mono ?_
  rintro _ _ ⟨rfl,rfl⟩;have e0:ss=[]:=List.length_eq_zero_iff.1 h0;subst e0;rw[List.mergeSort_nil];exact⟨rfl,World.ownsRow_nil _ _ _ _,Aa.refl _ _⟩
 ·have hH:Go.Sort.Holds (Value.int .i64) w g 0 ss.toArray:=holds_of_blockI hb (by simpa [ic]using h4)
  refine(Tryz.slices_Sort_int g 0 cap ss w hH (Array.getElem?_eq_some_iff.1 hb).1 (by omega)).mono ?_;rintro _ w' ⟨rfl,n,os,rfl⟩;have ho:=ownsRow_sortedI (w:=w) (n:=n) (os:=os) (ss:=ss) (ts:=ss.mergeSort (fun x y=>decide (x<=y))) (List.length_mergeSort _) hB hb h1 h2 h3;have hg:=grownBy_sortedI (w:=w) (g:=g) (n:=n) (os:=os) (ss.mergeSort (fun x y=>decide (x<=y))).toArray;exact⟨rfl,ho,By (S:=fun b=>B<=b) hg (fun b e=>by cases e;exact hB)⟩
theorem Tz:(Tryz.prog.info? 3).map (fun i=>(i.zero,i.size,i.bytes))=some (some (.int .i64 0),1,8):=by kernel_rfl
section
variable {c:Sts} {k nx:Nat} {R:List Rw} {ib:Bool} {D:List Nd}
theorem Vh (r:Rw):pfx (ckB 1 0) 0 (ikP 1 0 r).k=true:=by
 unfold pfx Lib.hasPrefix ckB ikP ikB;simp only[A0];rw[List.append_assoc];exact Jf _ _
theorem VI (r:Rw):¬pfx (ckB 1 0) 0 (ikP 1 1 r).k=true:=fun e=>by
 unfold pfx Lib.hasPrefix at e;obtain⟨t,ht⟩:=List.isPrefixOf_iff_prefix.1 e;have h1:=congrArg (fun l:List UInt8=>l.take 3) ht;have h2:(ikP 1 1 r).k.data.toList.take 3=Av 1 2++Av 1 1:=Jz 1 1 r.id _;have h3:(ckB 1 0).data.toList=Av 1 2++Av 0 1:=by unfold ckB;rw[A0]
 rw[h2,h3,List.take_left' (by simp[Ay])]at h1;have h4:=List.append_cancel_left h1;exact absurd h4 (by decide)
theorem StD.keys (h:StD c k R nx ib D) {L:List Pr} (hs:L.Pairwise (fun a b=>bl a.k b.k=true)) (hm:∀x,x∈L↔c.M 2 x/\pfx (ckB 1 0) 0 x.k=true):∃R':List Rw,R'.Perm R/\L=R'.map (ikP 1 0):=by
 refine L6 ((List.perm_ext_iff_of_nodup ?_ ?_).2 (fun x=> ?_)) R rfl
 ·exact hs.imp (fun {a b} h e=>by rw[e,Ar]at h;cases h)
 ·refine List.pairwise_map.2 (h.ids.imp_of_mem (fun {a b} ha hb hab e=> ?_))
  have h1:=(h.ok a ha).1.id;have h2:=(h.ok b hb).1.id;have:=(F3 (by omega) (by omega) (by omega) (by omega) (congrArg Pr.k e)).2;omega
 ·rw[hm x,h.m2 x,List.mem_map]
  constructor
  ·rintro⟨⟨r,hr,rfl|⟨_,rfl⟩⟩,hp⟩
   ·exact⟨r,hr,rfl⟩
   ·exact absurd hp (VI r)
  ·rintro⟨r,hr,rfl⟩
   exact⟨⟨r,hr,.inl rfl⟩,Vh r⟩
end
def anm:ByteArray:=⟨#[97]⟩
section
variable {bs bc bw bp bm N k nx:Nat} {c:Sts} {R:List Rw} {ib:Bool} {D:List Nd} {w:World}
theorem Sz {ac ai:Option Addr} {cc li ci:Nat} {ib:Bool} {B:Nat} (w:World) (h:Cm B (tbl nx ib) ac ai 2 cc li ci w):
  Calls Tryz.prog 35 #[.agg #[.int .i64 1,.int .i64 (nx:Nat),.string tnm,.slice ac 2 cc,.slice ai li ci],.string anm] w fun e w'=>e= .returned (.int .i64 0)/\Below w.heap.size w w':=by
 refine(Gc anm w h.cr).mono ?_;rintro e w' ⟨⟨i,hi,h1,h2,rfl⟩|⟨hno,_⟩,hb⟩
 ·have hi2:i<2:=hi
  have:i=0:=by
   rcases(show i=0\/i=1 by omega)with rfl|rfl
   ·rfl
   ·have h3:=h2 0 (by omega)
    rw[Cu.2 (show((tbl nx ib).cs[0]).nm=anm from rfl)]at h3
    cases h3
  subst this;exact⟨rfl,hb⟩
 ·have:=hno S3 (by simp[tbl])
  rw[Cu.2 (show S3.nm=anm from rfl)]at this
  cases this
theorem Rz (h:Stw bs bc bw bp c bm N w) (hd:StD c k R nx ib D):
  Calls Tryz.prog 26 #[.pointer (some ⟨c.tb 2,0,none⟩),.string (ckB 1 0)] w fun e w'=>∃(a9:Option Addr) (cp:Nat) (R':List Rw),e= .returned (.tuple #[.slice a9 R.length cp,.nilIface])/\R'.Perm R/\BU w.heap.size (.slice a9 R.length cp) (R'.map (ikP 1 0)) w'/\Below w.heap.size w w':=by
 refine(UA h.t (r:=2) (by omega) (ckB 1 0)).mono ?_;rintro e w' ⟨a9,n,cp,L,rfl,hn,hp,hs,hm,hb⟩;obtain⟨R',hR,hL⟩:=hd.keys hs hm;subst hL;rw[List.length_map,hR.length_eq]at hn;subst hn;exact⟨a9,cp,R',rfl,hR,hp,hb⟩
theorem Ja (h:Stw bs bc bw bp c bm N w) (hd:StD c k R nx ib D) (hk:k<200) {P:Vl->Bool} {J:World->Prop} {pl ph:Value} (hJ:∀wa wb,J wa->Below wa.heap.size wa wb->J wb) (hJw:J w)
  (hW:∀(x:Vl) wx,J wx->Calls Tryz.prog 47 #[.agg #[.int .i64 x.k,.int .i64 x.n,.string x.s],pl,ph] wx fun e w'=>e= .returned (.bool (P x))/\Below wx.heap.size wx w'):
  Calls Tryz.prog 19 #[.pointer (some ⟨bs,0,none⟩),.string tnm,.string anm,pl,ph] w fun e w'=>∃v,e= .returned (.tuple #[v,.nilIface])/\w'.ownsRow w.heap.size 3 1 v (AY P R).length (ic (AY P R))/\Below w.heap.size w w':=by
 have HG:Hid _:=Fi h hd (by omega);have HS:Hid (Stw bs bc bw bp c bm N w):=h;have HD:Hid _:=hd;have HJ:Hid _:=hJ;have HJ0:Hid (J w):=hJw;have HW:Hid _:=hW;obtain⟨i0,hi0,hz0,hz1,hz2⟩:=CC Tz;have q0:=HS.out.v.cell 0 (by simp);simp only[List.getElem_cons_zero]at q0;clear h hd hJ hJw hW;go_enter Tryz.func19,Tryz.ntmps19;go_wp2_with fail;refine(show Calls _ _ _ _ _ from HG.out).mono ?_;rintro _ w1 ⟨ac,ai,lc,cc,li,ci,rfl,he1,hb1⟩;have hlc:lc=2:=he1.ll.1.symm;subst hlc;have hv7:=Ac.new w1 #[.int .i64 1,.int .i64 (nx:Nat),.string tnm,.slice ac 2 cc,.slice ai li ci] 92 (by simp);have hb2:Below w1.heap.size w1 (w1.alloc (.cells #[.int .i64 1,.int .i64 (nx:Nat),.string tnm,.slice ac 2 cc,.slice ai li ci] 92)):=(Below.refl _ _).alloc (Nat.le_refl _) _;obtain⟨W,hW⟩:∃W,w1.alloc (.cells #[.int .i64 1,.int .i64 (nx:Nat),.string tnm,.slice ac 2 cc,.slice ai li ci] 92)=W:=⟨_,rfl⟩;rw[hW]at hv7 hb2;have HE:Hid (Cm w.heap.size (tbl nx ib) ac ai 2 cc li ci W):=he1.below hb2;have HV7:Hid (Ac w1.heap.size [.int .i64 1,.int .i64 (nx:Nat),.string tnm,.slice ac 2 cc,.slice ai li ci] W):=hv7;have HBW:Hid (Below w.heap.size w W):=hb1.trans (hb2.mono hb1.size);have HSW:Hid (Stw bs bc bw bp c bm N W):=HS.out.below HBW.out
 have HCT:Hid (Calls Tryz.prog 44 #[.slice ai li ci,.string anm] W fun e w'=>e= .returned (.bool true)/\w'=W):=by
  have:=Iz anm W HE.out.nr;have e2:Lib.containsS (ixs (tbl nx ib).cs) anm=true:=Iy nx ib 0 (by show 0<2;decide);rw[e2]at this;exact this
 obtain⟨d0,d1,dd2,d3,d4⟩:=HV7.out.c5;clear he1 hb1 hb2 hv7 q0 HG;go_wp2_with fail;refine(show Calls _ _ _ _ _ from HCT.out).mono ?_;rintro _ w2 ⟨rfl,rfl⟩;have HBD:Hid (Below w2.heap.size w2 w2.drew):=(Below.refl _ _).drew;have D0:Hid (w2.drew.cell? ⟨bs,4,none⟩=some (.pointer (some ⟨c.tb 2,0,none⟩))/\w2.drew.cell? ⟨w1.heap.size,0,none⟩=some (.int .i64 1)/\w2.drew.cell? ⟨w1.heap.size,1,none⟩=some (.int .i64 (nx:Nat))/\w2.drew.cell? ⟨w1.heap.size,2,none⟩=some (.string tnm)/\w2.drew.cell? ⟨w1.heap.size,3,none⟩=some (.slice ac 2 cc)/\w2.drew.cell? ⟨w1.heap.size,4,none⟩=some (.slice ai li ci)):=⟨(HSW.out.below HBD.out).v.cell 4 (by simp),d0,d1,dd2,d3,d4⟩;have HCOL:Hid (∀wx,Below w2.heap.size w2 wx->Calls Tryz.prog 35 #[.agg #[.int .i64 1,.int .i64 (nx:Nat),.string tnm,.slice ac 2 cc,.slice ai li ci],.string anm] wx fun e w'=>e= .returned (.int .i64 0)/\Below wx.heap.size wx w'):=fun wx hb=>Sz wx (HE.out.below hb);have HCK:Hid (∀wx,Calls Tryz.prog 45 #[.int .i64 1,.int .i64 0] wx fun e w'=>e= .returned (.string (ckB 1 0))/\Below wx.heap.size wx w'):=fun wx=>FF 1 0 wx;have HPX:Hid (∀wx,Below w2.heap.size w2 wx->Calls Tryz.prog 26 #[.pointer (some ⟨c.tb 2,0,none⟩),.string (ckB 1 0)] wx fun e w'=>∃(a9:Option Addr) (cp:Nat) (R':List Rw),e= .returned (.tuple #[.slice a9 R.length cp,.nilIface])/\R'.Perm R/\BU wx.heap.size (.slice a9 R.length cp) (R'.map (ikP 1 0)) w'/\Below wx.heap.size wx w'):=fun wx hb=>Rz (HSW.out.below hb) HD.out;have q4:=D0.out.1;clear HCT hW d0 d1 dd2 d3 d4 q4;go_wp2_with fail
 go_region_held3 (fun wx=>wx.cell? ⟨bs,4,none⟩=some (.pointer (some ⟨c.tb 2,0,none⟩))/\wx.cell? ⟨w1.heap.size,0,none⟩=some (.int .i64 1)/\wx.cell? ⟨w1.heap.size,1,none⟩=some (.int .i64 (nx:Nat))/\wx.cell? ⟨w1.heap.size,2,none⟩=some (.string tnm)/\wx.cell? ⟨w1.heap.size,3,none⟩=some (.slice ac 2 cc)/\wx.cell? ⟨w1.heap.size,4,none⟩=some (.slice ai li ci)) (first|exact D0.out|exact D1.out|exact D2.out|exact D3.out) (first|(go_at_call 35;refine(show Calls _ _ _ _ _ from HCOL.out _ HBD.out).mono ?_;rintro _ w3 ⟨rfl,hb3⟩;have HB3:Hid (Below w2.heap.size w2 w3):=HBD.out.trans (hb3.mono HBD.out.size);have D1:Hid (w3.cell? ⟨bs,4,none⟩=some (.pointer (some ⟨c.tb 2,0,none⟩))/\w3.cell? ⟨w1.heap.size,0,none⟩=some (.int .i64 1)/\w3.cell? ⟨w1.heap.size,1,none⟩=some (.int .i64 (nx:Nat))/\w3.cell? ⟨w1.heap.size,2,none⟩=some (.string tnm)/\w3.cell? ⟨w1.heap.size,3,none⟩=some (.slice ac 2 cc)/\w3.cell? ⟨w1.heap.size,4,none⟩=some (.slice ai li ci)):=⟨Ae hb3 D0.out.1,Ae hb3 D0.out.2.1,Ae hb3 D0.out.2.2.1,Ae hb3 D0.out.2.2.2.1,Ae hb3 D0.out.2.2.2.2.1,Ae hb3 D0.out.2.2.2.2.2⟩;clear hb3)|(go_at_call 45;refine(show Calls _ _ _ _ _ from HCK.out _).mono ?_;rintro _ w4 ⟨rfl,hb4⟩;have HB4:Hid (Below w2.heap.size w2 w4):=HB3.out.trans (hb4.mono HB3.out.size);have D2:Hid (w4.cell? ⟨bs,4,none⟩=some (.pointer (some ⟨c.tb 2,0,none⟩))/\w4.cell? ⟨w1.heap.size,0,none⟩=some (.int .i64 1)/\w4.cell? ⟨w1.heap.size,1,none⟩=some (.int .i64 (nx:Nat))/\w4.cell? ⟨w1.heap.size,2,none⟩=some (.string tnm)/\w4.cell? ⟨w1.heap.size,3,none⟩=some (.slice ac 2 cc)/\w4.cell? ⟨w1.heap.size,4,none⟩=some (.slice ai li ci)):=⟨Ae hb4 D1.out.1,Ae hb4 D1.out.2.1,Ae hb4 D1.out.2.2.1,Ae hb4 D1.out.2.2.2.1,Ae hb4 D1.out.2.2.2.2.1,Ae hb4 D1.out.2.2.2.2.2⟩;clear hb4)|(go_at_call 26;refine(show Calls _ _ _ _ _ from HPX.out _ HB4.out).mono ?_;rintro _ w5 ⟨a9,cp,R',rfl,hR5,hp5,hb5⟩;have HRP:Hid (R'.Perm R):=hR5;have HPR:Hid (BU w4.heap.size (.slice a9 R.length cp) (R'.map (ikP 1 0)) w5):=hp5;have HB5:Hid (Below w2.heap.size w2 w5):=HB4.out.trans (hb5.mono HB4.out.size);have D3:Hid (w5.cell? ⟨bs,4,none⟩=some (.pointer (some ⟨c.tb 2,0,none⟩))/\w5.cell? ⟨w1.heap.size,0,none⟩=some (.int .i64 1)/\w5.cell? ⟨w1.heap.size,1,none⟩=some (.int .i64 (nx:Nat))/\w5.cell? ⟨w1.heap.size,2,none⟩=some (.string tnm)/\w5.cell? ⟨w1.heap.size,3,none⟩=some (.slice ac 2 cc)/\w5.cell? ⟨w1.heap.size,4,none⟩=some (.slice ai li ci)):=⟨Ae hb5 D2.out.1,Ae hb5 D2.out.2.1,Ae hb5 D2.out.2.2.1,Ae hb5 D2.out.2.2.2.1,Ae hb5 D2.out.2.2.2.2.1,Ae hb5 D2.out.2.2.2.2.2⟩;clear hb5 hp5 hR5))
 obtain⟨n,hn⟩:∃n,R.length=n:=⟨_,rfl⟩;rw[hn]at HPR ⊢;have HN:Hid (R'.length=n):=HRP.out.length_eq.trans hn;have HRL:Hid (n<250):=by have:=HD.out.len;have:=HD.out.nx;show _<_;omega
 have HBW5:Hid (Below w.heap.size w w5):=HBW.out.trans (HB5.out.mono HBW.out.size);have HJ5:Hid (J w5):=HJ.out _ _ HJ0.out HBW5.out;clear D0 D1 D2 D3 hn HBD HB3 HB4 HCOL HCK HPX HE HV7 HSW;go_wp2_with fail;go_loopw [15,60] (fun l i wr=>∃j:Nat,j<=n/\i= .int .i64 (j:Nat)/\Hid (wr.ownsRow w5.heap.size 3 1 l (AY P (R'.take j)).length (ic (AY P (R'.take j))))/\Hid (Below w5.heap.size w5 wr)) (fun _ i _=>n+1-(intOf i).toNat)
 case atStart=>exact⟨0,Nat.zero_le _,rfl,World.ownsRow_nil _ _ _ _,Below.refl _ _⟩
 case round=>
  obtain⟨j,hj,rfl,HX,HB⟩:=hrel;have hnl:=HRL.out
  by_cases hlt:j<n
  ·have h1:(j:Int)<(n:Int):=by omega
   have hjl:j<R'.length:=by rw[HN.out];exact hlt
   obtain⟨g,hg,k0,k1,hix⟩:=BU.at (Ag HPR.out HB.out) (i:=j) (by rw[List.length_map];exact hjl);simp only[List.getElem_map]at k0 k1;have HRT:Hid (R'.take (j+1)=R'.take j++[R'[j]]):=List.take_succ_eq_append_getElem hjl;have hok:=(HD.out.ok _ (HRP.out.mem_iff.1 (List.getElem_mem hjl))).1
   have HXL:Hid ((AY P (R'.take j)).length<=250):=by
    have:=Gp P (R'.take j);rw[List.length_take]at this;show _<=_;omega
   obtain⟨r,hr⟩:∃r,R'[j]=r:=⟨_,rfl⟩;rw[hr]at k0 k1 HRT hok;have HSN:Hid (AY P (R'.take (j+1))=AY P (R'.take j)++(if(decide (r.a.k≠0) && P r.a)=true then [((r.id:Nat):Int)]else [])):=by rw[HRT.out];exact Kw _ _ _
   have HRI:Hid (∀wx,Calls Tryz.prog 46 #[.string (ikP 1 0 r).k] wx fun e w'=>e= .returned (.tuple #[.agg #[.int .i64 r.a.k,.int .i64 r.a.n,.string r.a.s],.int .i64 (r.id:Nat),.nilIface])/\Below wx.heap.size wx w'):=fun wx=>JS 1 0 r.id r.a wx hok.fa hok.ra (by have:=hok.id;omega);obtain⟨Q,hQ⟩:∃Q,ikP 1 0 r=Q:=⟨_,rfl⟩;rw[hQ]at k0 k1 HRI;obtain⟨L0,hL0⟩:∃L0,AY P (R'.take j)=L0:=⟨_,rfl⟩;rw[hL0]at HX HXL HSN;have hvp:=Ac.new wr #[.string Q.k,.string Q.i] 126 (by simp);have hbp:Below wr.heap.size wr (wr.alloc (.cells #[.string Q.k,.string Q.i] 126)):=(Below.refl _ _).alloc (Nat.le_refl _) _;obtain⟨W6,hW6⟩:∃W6,wr.alloc (.cells #[.string Q.k,.string Q.i] 126)=W6:=⟨_,rfl⟩;rw[hW6]at hvp hbp;have HB6:Hid (Below w5.heap.size w5 W6):=HB.out.trans (hbp.mono HB.out.size);have HX6:Hid (W6.ownsRow w5.heap.size 3 1 u15 L0.length (ic L0)):=Ag HX.out hbp;have p0:=hvp.cell 0 (by simp);simp only[List.getElem_cons_zero]at p0;clear hr hok hQ hvp hbp hL0;go_wp2_with fail;refine(show Calls _ _ _ _ _ from HRI.out _).mono ?_;rintro _ w7 ⟨rfl,hb7⟩;have hva:=Ac.new w7 #[.int .i64 r.a.k,.int .i64 r.a.n,.string r.a.s] 24 (by simp);have hba:Below w7.heap.size w7 (w7.alloc (.cells #[.int .i64 r.a.k,.int .i64 r.a.n,.string r.a.s] 24)):=(Below.refl _ _).alloc (Nat.le_refl _) _;obtain⟨W8,hW8⟩:∃W8,w7.alloc (.cells #[.int .i64 r.a.k,.int .i64 r.a.n,.string r.a.s] 24)=W8:=⟨_,rfl⟩;rw[hW8]at hva hba;have HB8:Hid (Below w5.heap.size w5 W8):=(HB6.out.trans (hb7.mono HB6.out.size)).trans (hba.mono (by have:=HB6.out.size;have:=hb7.size;omega));have HX8:Hid (W8.ownsRow w5.heap.size 3 1 u15 L0.length (ic L0)):=Ag (Ag HX6.out hb7) hba;have v0:=hva.cell 0 (by simp);have v1:=hva.cell 1 (by simp);have v2:=hva.cell 2 (by simp);simp only[List.getElem_cons_zero,List.getElem_cons_succ]at v0 v1 v2;have HWI:Hid _:=HW.out r.a W8 (HJ.out _ _ HJ5.out HB8.out);clear hva hba hb7 k0 k1 p0 hW6;obtain⟨kk,hkk⟩:∃kk,r.a.k=kk:=⟨_,rfl⟩;obtain⟨nn,hnn⟩:∃nn,r.a.n=nn:=⟨_,rfl⟩;obtain⟨sss,hss⟩:∃sss,r.a.s=sss:=⟨_,rfl⟩;obtain⟨PP,hPP⟩:∃PP,P r.a=PP:=⟨_,rfl⟩;rw[hkk,hPP]at HSN;rw[hkk,hnn,hss,hPP]at HWI;rw[hkk]at v0;rw[hnn]at v1;rw[hss]at v2;rw[hkk,hnn,hss]at hW8 ⊢;clear hkk hnn hss hPP
   by_cases hk0:kk=0
   ·subst hk0
    go_wp2_with fail;refine⟨⟨j+1,by omega,by go_num,?_,HB8.out⟩,by simp[intOf];omega⟩;show World.ownsRow _ _ _ _ _ _ _;rw[HSN.out];simpa using HX8.out
   ·go_wp2_with fail
    refine(show Calls _ _ _ _ _ from HWI.out).mono ?_;rintro _ w9 ⟨rfl,hb9⟩;have HB9:Hid (Below w5.heap.size w5 w9):=HB8.out.trans (hb9.mono HB8.out.size);have HX9:Hid (w9.ownsRow w5.heap.size 3 1 u15 L0.length (ic L0)):=Ag HX8.out hb9;clear hb9 v0 v1 v2 hW8 HWI
    cases PP
    ·go_wp2_with fail
     refine⟨⟨j+1,by omega,by go_num,?_,HB9.out⟩,by simp[intOf];omega⟩;show World.ownsRow _ _ _ _ _ _ _;rw[HSN.out];simpa using HX9.out
    ·have hbA:Below w9.heap.size w9 (w9.alloc (.cells #[.int .i64 (r.id:Nat)] 3)):=(Below.refl _ _).alloc (Nat.le_refl _) _
     have HXA:Hid ((w9.alloc (.cells #[.int .i64 (r.id:Nat)] 3)).ownsRow w5.heap.size 3 1 u15 L0.length (ic L0)):=Ag HX9.out hbA;have HBA:Hid (Below w5.heap.size w5 (w9.alloc (.cells #[.int .i64 (r.id:Nat)] 3))):=HB9.out.trans (hbA.mono HB9.out.size);clear hbA
     go_wp2_with (at_builtin;refine wpList_append_lies _ rfl _ _ 69 rfl w5.heap.size 3 i0 (.int .i64 0) 1 8 Tryz.underlying69 hi0 hz0 hz1 hz2 rfl (by decide) _ _ _ rfl HXA.out ⟨w9.heap.size,0,none⟩ 1 1 [.int .i64 (r.id:Nat)] rfl rfl (Bs w9 _ 3) (by intro u hu;simp at hu;subst hu;rfl) (by decide) (by have:=HXL.out;simp only[maxLen];omega) (by have:=HXL.out;omega) (by have:=HB9.out.size;rw[World.size_alloc];omega) _ rfl ?_;intro g5 cap5 w8 hO8 hG8 hat8 hlt8;have HO8:Hid _:=hO8;have HG8:Hid _:=hG8;clear hO8 hG8 hat8 hlt8)
     refine⟨⟨j+1,by omega,by go_num,?_,?_⟩,by simp[intOf];omega⟩
     ·show World.ownsRow _ _ _ _ _ _ _
      have e:AY P (R'.take (j+1))=L0++[((r.id:Nat):Int)]:=by rw[HSN.out];simp[hk0]
      have h9:=HO8.out;rw[e,List.length_append,ic,List.map_append];exact h9
     ·exact HBA.out.grown HG8.out (by have:=HB9.out.size;rw[World.size_alloc];omega) (fun k e=>(World.ownsRow.lt HXA.out k e).1)
  ·have h1:¬(j:Int)<(n:Int):=by omega
   obtain rfl:n=j:=by omega
   have hX:=HX.out;rw[List.take_of_length_le (by rw[HN.out];exact Nat.le_refl _)]at hX;have HSO:Hid _:=P4 hX (by have:=Gp P R';have:=HN.out;omega);have hlen:(AY P R').length=(AY P R).length:=(Kx P HRP.out).length_eq;have HLEN:Hid _:=hlen;clear hX hlen;go_wp2_with fail;refine(show Calls _ _ _ _ _ from HSO.out).mono ?_;rintro _ w9 ⟨rfl,ho9,hn9⟩;have HBF:Hid (Below w.heap.size w w9):=Aa.below (HBW5.out.trans (HB.out.mono HBW5.out.size)) hn9 (HBW5.out.trans (HB.out.mono HBW5.out.size)).size (fun i e=>Nat.le_trans HBW5.out.size e);rw[Ms P HRP.out HD.out.ids,HLEN.out]at ho9;have HO9:Hid _:=AE ho9 HBW5.out.size;clear ho9 hn9;go_wp2;go_ret2;exact⟨_,rfl,HO9.out,HBF.out⟩
end
def tc (tb:Nat->Nat) (j r:Nat):Value:=if r<j then .pointer (some ⟨tb r,0,none⟩)else .pointer none
def trC (tb:Nat->Nat) (j:Nat):List Value:=[.pointer none,.pointer none,tc tb j 0,tc tb j 1,tc tb j 2,tc tb j 3]
theorem SR (tb:Nat->Nat) {j:Nat} (hj:j<4) (bt:Nat):(trC tb j).set (2+j) (.pointer (some ⟨bt,0,none⟩))=trC (fun r=>if r=j then bt else tb r) (j+1):=by
 match j,hj with
 |0,_=>simp[trC,tc]
 |1,_=>simp[trC,tc]
 |2,_=>simp[trC,tc]
 |3,_=>simp[trC,tc]
section
variable {bp bd bm:Nat} {up:Nat->Bool} {V:Pst} {w:World}
set_option maxHeartbeats 2000000
theorem PQ (h:Tw bp bd bm 0 sd0 up 1 V w) (hu:∀k,V.used k=false) (hn:∀i,i<8->Ck V i Tr.none) (hg:Gl w) (hlo:3<=bp/\3<=bm):
  Calls Tryz.prog 21 #[.pointer (some ⟨bp,0,none⟩)] w fun e w'=>∃bs bc bw tb,e= .returned (.tuple #[.pointer (some ⟨bs,0,none⟩),.nilIface])/\Stw bs bc bw bp ⟨0,bd,tb,fun _ _=>False,fun _=>0⟩ bm 0 w'/\w.heap.size<=bs/\Below w.heap.size w w':=by
 have HT:Hid _:=h;have HU:Hid _:=hu;have HN:Hid _:=hn;have HGL:Hid (Gl w):=hg;have HLO:Hid _:=hlo;have HL:Hid (bp<w.heap.size/\bm<w.heap.size):=⟨h.lt.1,h.lt.2.1⟩;clear h hu hn hg hlo;go_enter Tryz.func21,Tryz.ntmps21;go_wp2_with fail;have HV0:Hid (Ac w.heap.size (trC (fun _=>0) 0) (w.alloc (.cells #[.pointer none,.pointer none,.pointer none,.pointer none,.pointer none,.pointer none] 63))):=Ac.new w #[.pointer none,.pointer none,.pointer none,.pointer none,.pointer none,.pointer none] 63 (by simp);have HB0:Hid (Below w.heap.size w (w.alloc (.cells #[.pointer none,.pointer none,.pointer none,.pointer none,.pointer none,.pointer none] 63))):=(Below.refl _ w).alloc (Nat.le_refl _) _;go_loopw [11] (fun i wr=>∃j tb,j<=4/\i= .int .i64 (j:Nat)/\Hid (Ac w.heap.size (trC tb j) wr)/\Hid (∀r,r<j->Tt (tb r) bp r wr/\w.heap.size<tb r)/\Hid (Below w.heap.size w wr)) (fun i _=>5-(intOf i).toNat)
 case atStart=>exact⟨0,fun _=>0,Nat.zero_le _,rfl,HV0,(fun r hr=>absurd hr (Nat.not_lt_zero _):∀r,r<0->_),HB0⟩
 case round=>
  clear HV0 HB0;obtain⟨j,tb,hj,rfl,HV,HA,HB⟩:=hrel
  by_cases hlt:j<4
  ·have h1:(j:Int)<4:=by omega
   have HAT:Hid _:=Vm (r:=j) (HT.out.below HB.out) (by omega)
   go_wp2_with fail;refine(show Calls _ _ _ _ _ from HAT.out).mono ?_;rintro _ w2 ⟨bt,rfl,htt,hbt,hb2⟩;have HV2:Hid (Ac w.heap.size (trC tb j) w2):=HV.out.below hb2
   have HA2:Hid (∀r,r<j+1->Tt (if r=j then bt else tb r) bp r w2/\w.heap.size<(if r=j then bt else tb r)):=fun r hr=>by
    by_cases e:r=j
    ·subst e;rw[if_pos rfl];exact⟨htt,Nat.lt_of_lt_of_le HV.out.lt hbt⟩
    ·rw[if_neg e];exact⟨(HA.out r (by omega)).1.below hb2,(HA.out r (by omega)).2⟩
   have HB2:Hid (Below w.heap.size w w2):=HB.out.trans (hb2.mono HB.out.size);have f0:=HV2.out.free (2+j);have d0:=HV2.out.cell (2+j) (by show 2+j<6;omega);obtain⟨u0,hu0⟩:∃u,(trC tb j)[2+j]'(by show 2+j<6;omega)=u:=⟨_,rfl⟩;rw[hu0]at d0;clear htt hb2 HAT hu0;go_wp2_with fail;refine⟨⟨j+1,fun r=>if r=j then bt else tb r,by omega,by go_num,?_,fun r hr=> ?_,?_⟩,by simp[intOf];omega⟩
   ·show Ac _ _ _
    rw[<-SR tb hlt bt];exact HV2.out.set _ _
   ·exact⟨(HA2.out r hr).1.only (S:=fun b=>b=w.heap.size) (Aa.set _ _ _ _) (fun e=>Nat.ne_of_gt (HA2.out r hr).2 e),(HA2.out r hr).2⟩
   ·exact Aa.below (S:=fun b=>b=w.heap.size) HB2.out (Aa.set _ _ _ _) HB2.out.size (fun i e=>by rw[e];exact Nat.le_refl _)
  ·have h1:¬(j:Int)<4:=by omega
   obtain rfl:j=4:=by omega
   have q2:=HV.out.cell 2 (by show 2<6;omega);have q5:=HV.out.cell 5 (by show 5<6;omega);have e2:(trC tb 4)[2]'(by show 2<6;omega)= .pointer (some ⟨tb 0,0,none⟩):=rfl;have e5:(trC tb 4)[5]'(by show 5<6;omega)= .pointer (some ⟨tb 3,0,none⟩):=rfl;rw[e2]at q2;rw[e5]at q5;clear e2 e5;have f0:=HV.out.free 0;have f1:=HV.out.free 1;go_wp2_with fail;refine(R8 _ _).mono ?_;rintro _ w3 ⟨rfl,hw3⟩;have hb3:Below wr.heap.size wr w3:=by rw[hw3];exact(Below.refl _ _).alloc (Nat.le_refl _) _
   have HC3:Hid (Ai wr.heap.size (.pointer (some ⟨tb 0,0,none⟩)) w3):=by rw[hw3];exact Ai.new wr _ _
   have HV3:Hid (Ac w.heap.size (trC tb 4) w3):=HV.out.below hb3;have HA3:Hid (∀r,r<4->Tt (tb r) bp r w3/\w.heap.size<tb r):=fun r hr=>⟨(HA.out r hr).1.below hb3,(HA.out r hr).2⟩;have HB3:Hid (Below w.heap.size w w3):=HB.out.trans (hb3.mono HB.out.size);have HSZ:Hid (w.heap.size<wr.heap.size):=HV.out.lt;clear hb3 hw3 q2 q5 f0 f1;have f0:=HV3.out.free 0;have q0:=HV3.out.cell 0 (by show 0<6;omega);have hv4:=HV3.out.set 0 (.pointer (some ⟨wr.heap.size,0,none⟩));have q5:=hv4.cell 5 (by show 5<6;omega);have e5:((trC tb 4).set 0 (.pointer (some ⟨wr.heap.size,0,none⟩)))[5]'(by show 5<6;omega)= .pointer (some ⟨tb 3,0,none⟩):=rfl;rw[e5]at q5;have ho4:Aa (fun b=>b=w.heap.size) w3 (w3.setCell ⟨w.heap.size,0,none⟩ (.pointer (some ⟨wr.heap.size,0,none⟩))):=Aa.set _ _ _ _;obtain⟨W4,hW4⟩:∃W4,w3.setCell ⟨w.heap.size,0,none⟩ (.pointer (some ⟨wr.heap.size,0,none⟩))=W4:=⟨_,rfl⟩;rw[hW4]at hv4 ho4 q5;have HV4:Hid (Ac w.heap.size ((trC tb 4).set 0 (.pointer (some ⟨wr.heap.size,0,none⟩))) W4):=hv4;have HC4:Hid (Ai wr.heap.size (.pointer (some ⟨tb 0,0,none⟩)) W4):=HC3.out.only ho4 (fun e=>by have:=HSZ.out;omega);have HA4:Hid (∀r,r<4->Tt (tb r) bp r W4/\w.heap.size<tb r):=fun r hr=>⟨(HA3.out r hr).1.only ho4 (fun e=>by have:=(HA3.out r hr).2;omega),(HA3.out r hr).2⟩;have HB4:Hid (Below w.heap.size w W4):=Aa.below HB3.out ho4 HB3.out.size (fun i e=>by rw[e];exact Nat.le_refl _);clear hv4 ho4 e5;go_wp2_with fail;refine(PO _ _).mono ?_;rintro _ w5 ⟨rfl,hw5⟩;have hb5:Below W4.heap.size W4 w5:=by rw[hw5];exact(Below.refl _ _).alloc (Nat.le_refl _) _
   have HF5:Hid (Ai W4.heap.size (.pointer (some ⟨tb 3,0,none⟩)) w5):=by rw[hw5];exact Ai.new W4 _ _
   have HC5:Hid (Ai wr.heap.size (.pointer (some ⟨tb 0,0,none⟩)) w5):=HC4.out.below hb5;have HV5:Hid (Ac w.heap.size ((trC tb 4).set 0 (.pointer (some ⟨wr.heap.size,0,none⟩))) w5):=HV4.out.below hb5;have HA5:Hid (∀r,r<4->Tt (tb r) bp r w5/\w.heap.size<tb r):=fun r hr=>⟨(HA4.out r hr).1.below hb5,(HA4.out r hr).2⟩;have HB5:Hid (Below w.heap.size w w5):=HB4.out.trans (hb5.mono HB4.out.size);have HS4:Hid (w.heap.size<W4.heap.size):=HV4.out.lt;clear hb5 hw5 hW4 f0 q0 q5;have f1:=HV5.out.free 1;have q1:=HV5.out.cell 1 (by show 1<6;omega);go_wp2;go_ret2;have ho6:Aa (fun b=>b=w.heap.size) w5 (w5.setCell ⟨w.heap.size,1,none⟩ (.pointer (some ⟨W4.heap.size,0,none⟩))):=Aa.set _ _ _ _;have hv6:=HV5.out.set 1 (.pointer (some ⟨W4.heap.size,0,none⟩));have hb6:Below w.heap.size w (w5.setCell ⟨w.heap.size,1,none⟩ (.pointer (some ⟨W4.heap.size,0,none⟩))):=Aa.below HB5.out ho6 HB5.out.size (fun i e=>by rw[e];exact Nat.le_refl _);have hL:=HL.out;have h3:=HSZ.out;have h4:=HS4.out;refine⟨w.heap.size,wr.heap.size,W4.heap.size,tb,rfl,⟨hv6,HC5.out.only ho6 (fun e=>by omega),HF5.out.only ho6 (fun e=>by omega),⟨0,up,V,fun _=>Tr.none,Nat.le_refl _,⟨fun r hr=>(HA5.out r hr).1.only ho6 (fun e=>by have:=(HA5.out r hr).2;omega),HT.out.below hb6,fun r hr=>HN.out r (by omega),fun k=> ?_,fun r s _ _ _ k hk=> ?_,fun r hr=>by have:=(HA5.out r hr).2;exact⟨(show tb r≠bp by omega),(show tb r≠bm by omega)⟩⟩,fun s hs=>Nat.le_refl _,fun s hs x=> ?_⟩,HGL.out.below hb6,HLO.out,⟨by omega,by omega⟩,⟨by omega,by omega⟩,⟨by omega,by omega⟩⟩,Nat.le_refl _,hb6⟩
   ·rw[HU.out k]
    constructor
    ·intro e;cases e
    ·rintro⟨r,_,hk⟩;simp[Tr.pgL,Tr.none]at hk
   ·simp[Tr.pgL,Tr.none]at hk
   ·show x∈Tr.none.all↔False
    simp[Tr.all,Tr.none]
end
def Nj:Col:=⟨⟨#[97]⟩,1,false,false,false⟩
def tb0:Tb:=⟨1,tnm,[Nj,In false],1⟩
def cE (bd:Nat) (tb:Nat->Nat):Sts:=⟨0,bd,tb,fun _ _=>False,fun _=>0⟩
def c0S (bd:Nat) (tb:Nat->Nat):Sts:=(cE bd tb).put 0 (·∈[tb0].flatMap Tb.prs) 300
def c1S (bd:Nat) (tb:Nat->Nat):Sts:=(cE bd tb).put 0 (·∈[tbl 1 false].flatMap Tb.prs) 300
theorem Jc {c:Sts} {r s:Nat} {M:Pr->Prop} {Z:Nat} (h:s≠r):(c.put r M Z).M s=c.M s:=if_neg h
theorem Jb {c:Sts} {r s:Nat} {M:Pr->Prop} {Z:Nat} (h:s≠r):(c.put r M Z).Z s=c.Z s:=if_neg h
theorem Is (bd:Nat) (tb:Nat->Nat):StD (c1S bd tb) 0 [] 1 false []:=by
 refine⟨fun x=>Iff.rfl,fun x=>⟨fun h=>False.elim h,fun h=> ?_⟩,fun x=>⟨fun h=>False.elim h,fun h=> ?_⟩,fun x=>⟨fun h=>False.elim h,fun h=> ?_⟩,Nat.le_refl _,Nat.le_refl _,Nat.zero_le _,fun r hr=> ?_,List.Pairwise.nil,⟨Nat.le_refl _,Nat.le_refl _⟩,Nts.nil,List.Perm.refl _⟩
 ·obtain⟨r,h,_⟩:=h;cases h
 ·obtain⟨r,h,_⟩:=h;cases h
 ·obtain⟨r,h,_⟩:=h;cases h
 ·cases hr
theorem Sv:Nt [Nj,In false]:=by
 refine⟨by simp,by simp,fun i hi=> ?_,fun c hc=> ?_⟩
 ·have hi2:i<2:=hi
  rcases(show i=0\/i=1 by omega)with rfl|rfl
  ·exact⟨by show BW ⟨#[97]⟩=true;decide,.inl rfl,fun e=>(by cases e),fun x hx=>(by cases hx)⟩
  ·refine⟨by show BW ⟨#[98]⟩=true;decide,.inr rfl,fun _=>rfl,fun x hx=> ?_⟩
   have hx2:x∈[Nj]:=hx;rw[List.mem_singleton.1 hx2];exact Vn
 ·simp only[List.mem_cons,List.not_mem_nil,or_false]at hc
  rcases hc with rfl|rfl<;>rfl
section
variable {bs bc bw bp bm bd N:Nat} {tb:Nat->Nat} {w:World}
theorem Stw.cat0 (h:Stw bs bc bw bp (cE bd tb) bm N w):BV bc (tb 0) bp ((cE bd tb).at 0) bm N [] w:=by
 obtain⟨N1,up,V,T,h1,h2,h3,h4⟩:=h.t.prS 0 (by omega) h.cc h.nc;exact⟨N1,up,V,T,h1,h2,⟨fun s hs=>(by cases hs),List.Pairwise.nil,fun x=>by rw[h4 x];exact⟨fun h=>False.elim h,fun h=>by cases h⟩⟩⟩
theorem Nf (h:Stw bs bc bw bp (cE bd tb) bm N w) {B:Nat} {vc:Value} (hc:A8 B vc [Nj,In false] w) (hN:N+9000<1000000):
  Calls Tryz.prog 22 #[.pointer (some ⟨bc,0,none⟩),.agg #[.string tnm,vc,.slice none 0 0]] w fun e w'=>e= .returned .nilIface/\Stw bs bc bw bp (c0S bd tb) bm (N+280) w'/\Aa (fun b=>b=bp\/b=bm) w w':=by
 obtain⟨m,hm⟩:=h.g.m;refine(Nc h.cat0 hm (by simp) tnm hc Sv (by omega)).mono ?_;rintro e w' (⟨_,rfl,id,h1,h2,_,h4,h5,h6⟩|⟨hno,_⟩)
 ·have e1:id=1:=by simp at h4;omega
  subst e1;exact⟨rfl,h.ofCat h5 h6,h6⟩
 ·exact absurd ⟨by decide,fun t ht=>(by cases ht),by simp⟩ hno
theorem Sb (h:Stw bs bc bw bp (c0S bd tb) bm N w) (hN:N+9000<1000000):
  Calls Tryz.prog 32 #[.pointer (some ⟨bc,0,none⟩),.string tnm,.string anm] w fun e w'=>e= .returned .nilIface/\Stw bs bc bw bp (c1S bd tb) bm (N+40) w'/\Aa (fun b=>b=bp\/b=bm) w w':=by
 obtain⟨m,hm⟩:=h.g.m
 have hok:tb0.Ok:=by
  have:=GN (nx:=1) (by omega) false
  exact⟨this.nm,this.id,this.cs,fun c hc=>by
   simp only[tb0,List.mem_cons,List.not_mem_nil,or_false]at hc;rcases hc with rfl|rfl
   ·exact⟨by show BW ⟨#[97]⟩=true;decide,.inl rfl⟩
   ·exact⟨by show BW ⟨#[98]⟩=true;decide,.inr rfl⟩,this.nx⟩
 have hc:=h.cat hok (fun x=>Iff.rfl);refine(Jx (t:=tb0) (i:=0) (by show 0<2;decide) (cn:=anm) rfl (fun j hj=>absurd hj (Nat.not_lt_zero _)) (by rfl) hc hm (by omega)).mono ?_;rintro e w' (⟨e1,_⟩|⟨_,rfl,hc',ho⟩)
 ·cases e1
 ·exact⟨rfl,(h.ofCat hc' ho).iff rfl rfl (fun s hs x=>by
   by_cases e:s=0
   ·subst e;exact Iff.rfl
   ·have e1:((c0S bd tb).put 0 (·∈[tb0.idx 0].flatMap Tb.prs) (300 * [tb0.idx 0].length)).M s=(cE bd tb).M s:=(Jc e).trans (Jc e)
    have e2:(c1S bd tb).M s=(cE bd tb).M s:=Jc e;rw[e1,e2]) (fun s hs=>by
   by_cases e:s=0
   ·subst e;exact Nat.le_refl _
   ·have e1:((c0S bd tb).put 0 (·∈[tb0.idx 0].flatMap Tb.prs) (300 * [tb0.idx 0].length)).Z s=(cE bd tb).Z s:=(Jb e).trans (Jb e)
    have e2:(c1S bd tb).Z s=(cE bd tb).Z s:=Jb e;rw[e1,e2];exact Nat.le_refl _),ho⟩
end
end
end Go.Proofs.YtihnldkgeelehaaGreatDoor
