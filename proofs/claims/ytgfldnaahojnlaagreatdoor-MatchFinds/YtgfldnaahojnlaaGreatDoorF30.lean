/- MatchFinds: part 30. -/
import Derived.Test.YtgfldnaahojnlaaGreatDoorF29
set_option maxRecDepth 100000
set_option maxHeartbeats 4000000
namespace Go.Proofs.YtgfldnaahojnlaaGreatDoor
section
open Go.RowKit
theorem RY (w:World) (o:Obj) (x:Int):∀j u,[Value.int .i64 x][j]? =some u->((w.alloc o).alloc (.cells #[.int .i64 x] 3)).cell? ((⟨w.heap.size+1,0,none⟩:Addr).add j)=some u:=by
 have h:=cell_one_new (w.alloc o) (.int .i64 x) 3;rw[show(w.alloc o).heap.size=w.heap.size+1 by simp]at h;exact h
theorem Nx (hS:CI) (v1 v2:Value) (far:Int) (ys xs:List Pl) (w:World) (h2:InP w v1 ys) (h1:InP w v2 xs) (hl2:ys.length<=10000) (hl1:xs.length<=10000) (hcl:(AT (BT far) ys xs).length<=10000) (hk2:∀z∈ys,OkP z) (hk1:∀z∈xs,OkP z):
  Calls Tryz.prog 37 #[v1,v2,.int .i64 far] w fun e w'=>∃v' T,e= .returned v'/\w'.ownsRow w.heap.size 3 1 v' T.length (icc T)/\(T.Pairwise (·< ·)/\(∀x,x∈T↔x∈AT (BT far) ys xs)/\T.length<=10000)/\Below w.heap.size w w':=by
 obtain⟨i0,hi,hz0,hz1,hz2⟩:=A5 M9;obtain⟨a1,c1,rfl,_,⟨_,_,hx⟩,_⟩:=h1;obtain⟨a2,c2,rfl,_,⟨_,_,hy⟩,_⟩:=h2;have HK2:Hid (∀z∈ys,OkP z):=hk2;clear hk2;have HS:Hid CI:=hS;have HK:Hid (∀z∈xs,OkP z):=hk1;obtain⟨F,hF⟩:∃F,AT (BT far) ys xs=F:=⟨_,rfl⟩;have hFl:F.length<=10000:=by rw[<-hF];exact hcl
 clear hcl;have HF:Hid (AT (BT far) (ys.drop 0) xs=F):=hF;rw[hF];clear hS hk1 hF;go_enter Tryz.func37,Tryz.ntmps37;go_wp2;go_loopw [7,15] (fun v i wr=>∃(k:Nat) (l:List Int),k<=ys.length/\i= .int .i64 k/\Hid (l++AT (BT far) (ys.drop k) xs=F)/\Hid (wr.ownsRow w.heap.size 3 1 v l.length (icc l)/\Below w.heap.size w wr)) (fun _ i _=>ys.length-(intOf i).toNat)
 case atStart=>exact⟨0,[],Nat.zero_le _,rfl,HF,World.ownsRow_nil _ _ _ _,Below.refl _ _⟩
 case round=>
  clear HF;obtain⟨k,l,hk,rfl,hz,hown⟩:=hrel
  by_cases hkl:k<ys.length
  ·rcases hy with hy|⟨b2,o2,rfl,hb2,hrow2⟩
   ·simp[hy]at hkl
   obtain⟨g1,g2⟩:=hrow2 k hkl;clear hrow2;rw[<-hown.out.2.cell (p:=⟨b2,_,none⟩) hb2]at g1 g2
   have HZ:Hid (l++((xs.drop 0).filterMap ((BT far) ys[k])++AT (BT far) (ys.drop (k+1)) xs)=F):=by
    show _=_;rw[<-hz.out,Jd (BT far) xs hkl]
   have i1:(k:Int)<(ys.length:Int):=by omega
   obtain⟨oq1,oq2,oq3,oq4⟩:=HK2.out ys[k] (List.getElem_mem hkl);generalize ys[k]=q at *;obtain⟨R,hR⟩:∃R,AT (BT far) (ys.drop (k+1)) xs=R:=⟨_,rfl⟩;rw[hR]at HZ;have HR:Hid (AT (BT far) (ys.drop (k+1)) xs=R):=hR;have HB:Hid (Below w.heap.size w wr):=hown.out.2;have HO:Hid (wr.ownsRow w.heap.size 3 1 u7 l.length (icc l)):=hown.out.1;have HA:Hid (Below wr.heap.size wr (wr.alloc (.cells #[.int .i64 q.r,.int .i64 q.a] 81))):=(Below.refl _ _).alloc (Nat.le_refl _) _;have HV:Hid (Az wr.heap.size q (wr.alloc (.cells #[.int .i64 q.r,.int .i64 q.a] 81))):=Az.box wr q;clear hown hz hR;have hsw:=HB.out.size;go_wp2;obtain⟨wo,rfl⟩:∃wo,wo=wr:=⟨_,rfl⟩;obtain⟨vo,rfl⟩:∃vo,vo=u7:=⟨_,rfl⟩;go_loopw [7,21] (fun v i wi=>∃(j:Nat) (m:List Int),j<=xs.length/\i= .int .i64 j/\Hid (m++((xs.drop j).filterMap ((BT far) q)++R)=F)/\Hid (wi.ownsRow w.heap.size 3 1 v m.length (icc m)/\Gr (wo.alloc (.cells #[.int .i64 q.r,.int .i64 q.a] 81)) wi vo v)) (fun _ i _=>xs.length-(intOf i).toNat)
   case atStart=>exact⟨0,l,Nat.zero_le _,rfl,HZ,Bi HO.out HA.out,Gr.refl _ _⟩
   case round=>
    clear HZ;obtain⟨j,m,hj,rfl,hz,hown⟩:=hrel;have hmF:m.length<=F.length:=by rw[<-hz.out];simp
    have hv:=Az.gr HV.out hown.out.2 (F9 HO.out _ (.inr (Nat.le_refl _)));obtain⟨q1,q2,_,_,hvl⟩:=hv;have HBi:Hid (Below w.heap.size w wr):=(HB.out.trans (HA.out.mono HB.out.size)).trans (Gr.below hown.out.2 (fun k e=>(HO.out.lt k e).1) (by simp;omega));have hsi:=HBi.out.size;have HOi:Hid (wr.ownsRow w.heap.size 3 1 u7 m.length (icc m)):=hown.out.1;have HG:Hid (Gr (wo.alloc (.cells #[.int .i64 q.r,.int .i64 q.a] 81)) wr vo u7):=hown.out.2;clear hown
    by_cases hjl:j<xs.length
    ·rcases hx with hx|⟨b1,o1,rfl,hb1,hrow1⟩
     ·simp[hx]at hjl
     obtain⟨g3,g4⟩:=hrow1 j hjl;clear hrow1;rw[<-HBi.out.cell (p:=⟨b1,_,none⟩) hb1]at g3 g4;have i2:(j:Int)<(xs.length:Int):=by omega
     obtain⟨ok1,ok2,ok3,ok4⟩:=HK.out xs[j] (List.getElem_mem hjl)
     have HY:Hid (∀x,(BT far) q xs[j]=some x->m++([x]++((xs.drop (j+1)).filterMap ((BT far) q)++R))=F):=fun x e=>by
      rw[<-hz.out,LF hjl e,List.append_assoc]
     have HN:Hid ((BT far) q xs[j]=none->m++((xs.drop (j+1)).filterMap ((BT far) q)++R)=F):=fun e=>by
      rw[<-hz.out,Oo hjl e]
     clear hz;generalize xs[j]=p at *;have k1:(wr.alloc (.cells #[.int .i64 p.r,.int .i64 p.a] 81)).cell? ⟨wo.heap.size,0,none⟩=some (.int .i64 q.r):=by rw[World.cell?_alloc_lt _ _ _ (by exact hvl)];exact q1
     have k2:(wr.alloc (.cells #[.int .i64 p.r,.int .i64 p.a] 81)).cell? ⟨wo.heap.size,1,none⟩=some (.int .i64 q.a):=by rw[World.cell?_alloc_lt _ _ _ (by exact hvl)];exact q2
     clear q1 q2;obtain⟨d,hd⟩:∃d,q.a-p.a=d:=⟨_,rfl⟩;have HD:Hid (BT far q p=if q.r=p.r/\d<=far/\ -d<=far then some q.r else none):=by show _=_;rw[BT,hd]
     by_cases m1:q.r=p.r
     ·have j1:(q.r == p.r)=true:=by simpa using m1
      by_cases m2:d<=far
      ·have j2:decide (d<=far)=true:=by simpa using m2
       by_cases m3: -d<=far
       ·have j3:decide (-d<=far)=true:=by simpa using m3
        have HY2:Hid ((m++[q.r])++((xs.drop (j+1)).filterMap (BT far q)++R)=F):=by
         show _=_;rw[List.append_assoc];exact HY.out q.r (by rw[HD.out,if_pos ⟨m1,m2,m3⟩])
        clear HY HN m1 HD
        go_wp2_with (at_builtin;refine wpList_append_lies _ rfl _ _ 95 rfl w.heap.size 3 i0 (.int .i64 0) 1 8 Tryz.underlying95 hi hz0 hz1 hz2 rfl (by decide) _ _ _ rfl ((HOi.out.alloc _).alloc _) ⟨wr.heap.size+1,0,none⟩ 1 1 [.int .i64 q.r] rfl rfl (RY wr _ q.r) (H9 _) (by decide) (by simp[maxLen];omega) (by omega) (by simp;omega) _ rfl ?_)
        intro g cap w1 hown' hgrow hg _
        have HG1:Hid (Gr (wo.alloc (.cells #[.int .i64 q.r,.int .i64 q.a] 81)) w1 vo (.slice (some ⟨g,0,none⟩) (m.length+1) cap)):=HG.out.trans (Gr.alloc _ (Gr.alloc _ ⟨hgrow,fun k hk=>by
         have e:g=k:=by simpa [Fl]using hk
         subst e;rcases hg with h|h
         ·exact .inl h
         ·exact .inr (by rw[h];simp)⟩))
        have HO1:Hid (w1.ownsRow w.heap.size 3 1 (.slice (some ⟨g,0,none⟩) (m.length+1) cap) (m++[q.r]).length (icc (m++[q.r]))):=Bc hown' (by simp) (by rw[Hf];rfl);clear hown' hgrow hg k1 k2 HOi HG;go_wp2;go_roundw
        case rel=>exact⟨j+1,m++[q.r],by omega,by go_num,HY2,HO1.out,HG1.out⟩
        case measure=>simp[intOf];omega
       ·have j3:decide (-d<=far)=false:=by simpa using m3
        have HN2:Hid _:=HN.out (by rw[HD.out,if_neg (fun h=>m3 h.2.2)]);clear HY HN m1 HD;go_wp2;go_roundw
        case rel=>exact⟨j+1,m,by omega,by go_num,HN2,HOi.out.alloc _,Gr.more HG.out _⟩
        case measure=>simp[intOf];omega
      ·have j2:decide (d<=far)=false:=by simpa using m2
       have HN2:Hid _:=HN.out (by rw[HD.out,if_neg (fun h=>m2 h.2.1)]);clear HY HN m1 HD;go_wp2;go_roundw
       case rel=>exact⟨j+1,m,by omega,by go_num,HN2,HOi.out.alloc _,Gr.more HG.out _⟩
       case measure=>simp[intOf];omega
     ·have j1:(q.r == p.r)=false:=by simpa using m1
      have HN2:Hid _:=HN.out (by rw[HD.out,if_neg (fun h=>m1 h.1)]);clear HY HN m1 HD;go_wp2;go_roundw
      case rel=>exact⟨j+1,m,by omega,by go_num,HN2,HOi.out.alloc _,Gr.more HG.out _⟩
      case measure=>simp[intOf];omega
    ·have HE:Hid (m++R=F):=by
      show _=_;have h:=hz.out;rw[List.drop_eq_nil_of_le (by omega)]at h;exact h
     clear hz q1 q2;go_wp2;go_roundw
     case rel=>exact⟨k+1,m,by omega,by go_num,by rw[HR.out];exact HE,HOi.out,HBi.out⟩
     case measure=>simp[intOf];omega
  ·have e:l=F:=by
    have h:=hz.out;rw[List.drop_eq_nil_of_le (by omega),Kz,List.append_nil]at h;exact h
   subst e;have HO:Hid (wr.ownsRow w.heap.size 3 1 u7 l.length (icc l)):=hown.out.1;have HB:Hid (Below w.heap.size w wr):=hown.out.2;clear hown hz;go_wp2_with fail;refine(HS.out w.heap.size u7 l _ HO.out HB.out.size (by omega)).mono ?_;rintro _ w6 ⟨v6,T,rfl,ho6,⟨t1,t2,t3⟩,hb6⟩;have HO6:Hid (w6.ownsRow w.heap.size 3 1 v6 T.length (icc T)/\(T.Pairwise (·< ·)/\(∀x,x∈T↔x∈l)/\T.length<=10000)):=⟨ho6,t1,t2,by omega⟩;have HB6:Hid (Below w.heap.size w w6):=HB.out.trans hb6;clear ho6 t1 t2 t3 hb6 HO HB;go_wp2;go_ret;exact⟨_,T,rfl,HO6.out.1,HO6.out.2,HB6.out⟩
end
section
open Go.RowKit Go.Maps
theorem Ah.ne {m n:Nat} {c:Int->Int} {w:World} (h:Ah m n c w) {b o:Nat} {v:Value} (hc:w.cell? ⟨b,o,none⟩=some v):b≠m:=by
 obtain⟨D,⟨es,clock,hm,_⟩,_⟩:=h;rintro rfl;simp[World.cell?,hm]at hc
section
variable {ops:Array Oper} {rest:List Oper} {o:Oper} {a:Act} {Q:Exit->Act->World->Prop} {m n:Nat} {c d:Int->Int}
theorem UC (w:World) (hg:o.guard=none) (mo x:Operand) (hop:o.op=Op.lookup 44 mo x false) (hS:Ah m n c w) {r C:Int} (hC:c r=C) (h0:0<=r) (h1:r<=10000000000) (hm:a.eval mo= .map (some m)) (hx:a.eval x= .int .i64 r)
  (hK:wpList Tryz.prog ops Q rest (a.put o.dst (.int .i64 C)) w):wpList Tryz.prog ops Q (o::rest) a w:=by
 subst hC;exact XQ w hg mo x hop hS r h0 h1 hm hx hK
theorem N4 (w:World) (hg:o.guard=none) (mo x v:Operand) (hop:o.op=Op.mapUpdate 44 mo x v) (hS:Ah m n c w) (hnn:n<1000000000) (r y:Int) (h0:0<=r) (h1:r<=10000000000) (h2:0<y) (h3:y<=10000000000) (hd:∀j,(if j=r then y else c j)=d j) (hm:a.eval mo= .map (some m)) (hx:a.eval x= .int .i64 r) (hv:a.eval v= .int .i64 y)
  (hK:∀w',Ah m (n+1) d w'->Aa (fun b=>b=m) w w'->wpList Tryz.prog ops Q rest (a.put o.dst undef) w'):wpList Tryz.prog ops Q (o::rest) a w:=
 Yz w hg mo x v hop hS hnn r y h0 h1 h2 h3 hm hx hv fun w' k1 k2=>hK w' (k1.as hd) k2
end
theorem Vk {T:List Pl} {k:Nat} (h:k<T.length) (r:Int):cnt (T.take (k+1)) r=cnt (T.take k) r+if T[k].r=r then 1 else 0:=by
 rw[List.take_succ_eq_append_getElem h,Oy]
theorem Ox {T:List Pl} {k:Nat} (h:k<T.length) {C:Int} (hC:cnt (T.take k) T[k].r=C):∀j,(if j=T[k].r then C+1 else cnt (T.take k) j)=cnt (T.take (k+1)) j:=fun j=>by
 rw[Vk h]
 by_cases e:j=T[k].r
 ·rw[if_pos e,if_pos e.symm,<-hC,e]
 ·rw[if_neg e,if_neg (fun h=>e h.symm)];omega
def Cq (w:World) (c:Int->Int) (n:Nat) (e:Ending) (w':World):Prop:=∃m k,e= .returned (.map (some m))/\w.heap.size<=m/\k<=n/\Ah m k c w'/\Below w.heap.size w w'
structure La (w:World) (B bw off c:Nat) (k:Int) (ws:List ByteArray):Prop where
 kind:w.cell? ⟨B,0,none⟩=some (.int .i64 k)
 row:w.cell? ⟨B,1,none⟩=some (.slice (some ⟨bw,off,none⟩) ws.length c)
 cap:ws.length<=c
 sm:ws.length<=1000000
 lt:bw<w.heap.size
 at':∀i (hi:i<ws.length),w.cell? ⟨bw,off+i,none⟩=some (.string ws[i])
theorem La.below {w w':World} {B bw off c:Nat} {k:Int} {ws:List ByteArray} (h:La w B bw off c k ws) (hb:Below w.heap.size w w'):La w' B bw off c k ws:=
 ⟨(hb.cell (p:=⟨B,0,none⟩) (World.block_lt_of_cell? w _ h.kind)).trans h.kind,(hb.cell (p:=⟨B,1,none⟩) (World.block_lt_of_cell? w _ h.row)).trans h.row,h.cap,h.sm,Nat.lt_of_lt_of_le h.lt hb.size,fun i hi=>(hb.cell (p:=⟨bw,off+i,none⟩) h.lt).trans (h.at' i hi)⟩
theorem Ct (w:World) (o:Obj):Below w.heap.size w (w.alloc o):=(Below.refl _ w).alloc (Nat.le_refl _) _
theorem YC (wd:ByteArray) (w:World):Calls Tryz.prog 31 #[.string wd] w fun e w'=>e= .returned (.func (.func 32) #[] #[.pointer (some ⟨w.heap.size,0,none⟩)])/\Af w.heap.size (.string wd) w'/\Below w.heap.size w w':=
 (M7 wd w).mono fun e w' ⟨h1,h2⟩=>⟨h1,by rw[h2];exact Af.new w _ _,by rw[h2];exact Ct w _⟩
def Zo (w:World) (v:Value) (R:List Int):Prop:=∃a c,v= .slice a R.length c/\(R=[]\/∃g,a=some ⟨g,0,none⟩/\g<w.heap.size/\∀i (h:i<R.length),w.cell? ⟨g,i,none⟩=some (.int .i64 R[i]))
theorem W8 {w:World} {B:Nat} {v:Value} {R:List Int} (h:w.ownsRow B 3 1 v R.length (icc R)):Zo w v R:=by
 rcases h.2 with⟨rfl,h0⟩|⟨g,cap,cur,rfl,_,hg,_⟩
 ·have:R=[]:=List.length_eq_zero_iff.1 h0
  subst this;exact⟨none,0,rfl,.inl rfl⟩
 ·refine⟨_,cap,rfl,.inr ⟨g,rfl,(Array.getElem?_eq_some_iff.1 hg).1,fun i hi=> ?_⟩⟩
  have k0:=h.cells (g:=g) rfl i (.int .i64 R[i]) (by simp[icc,hi]);rw[Go.WideShapes.add_plain,Nat.zero_add]at k0;exact k0
theorem Yb (R:List Int) (k:Nat) (hk:k<R.length) (j:Int):(if j=R[k]then(1:Int)else if j∈R.take k then 1 else 0)=if j∈R.take (k+1)then 1 else 0:=by
 rw[List.take_succ_eq_append_getElem hk]
 by_cases e:j=R[k]
 ·rw[if_pos e,if_pos (List.mem_append_right _ (List.mem_singleton.2 e))]
 ·rw[if_neg e]
  by_cases e2:j∈R.take k
  ·rw[if_pos e2,if_pos (List.mem_append_left _ e2)]
  ·rw[if_neg e2,if_neg (fun h=>by rcases List.mem_append.1 h with h|h;exact e2 h;exact e (List.mem_singleton.1 h))]
structure HE (w:World) (B0 b:Nat) (nm:ByteArray) (D:List Nd) (pls:ByteArray->List Pl) (beg:ByteArray->List ByteArray) (B bw off c:Nat) (k:Int) (ws:List ByteArray) (m:Nat) (wx:World):Prop where
 dr:Dr B0 b nm D pls beg wx
 ws:La wx B bw off c k ws
 bx:Af w.heap.size (.pointer (some ⟨B,0,none⟩)) wx
 mp:Ah m 0 (fun _=>0) wx
 b:Below w.heap.size w wx
theorem HE.step {w:World} {B0 b:Nat} {nm:ByteArray} {D:List Nd} {pls:ByteArray->List Pl} {beg:ByteArray->List ByteArray} {B bw off c:Nat} {k:Int} {ws:List ByteArray} {m:Nat} {wx wy:World} (h:HE w B0 b nm D pls beg B bw off c k ws m wx) (hb:Below wx.heap.size wx wy):HE w B0 b nm D pls beg B bw off c k ws m wy:=
 ⟨h.dr.below hb,h.ws.below hb,h.bx.below hb,h.mp.below hb,h.b.trans (hb.mono h.b.size)⟩
theorem HE.new {w:World} {B0 b:Nat} {nm:ByteArray} {D:List Nd} {pls:ByteArray->List Pl} {beg:ByteArray->List ByteArray} {B bw off c:Nat} {k:Int} {ws:List ByteArray} (h:Dr B0 b nm D pls beg w) (hW:La w B bw off c k ws):HE w B0 b nm D pls beg B bw off c k ws (w.heap.size+1) ((w.alloc (.cells #[.pointer (some ⟨B,0,none⟩)] 23)).alloc (.map #[] 0)):=by
 have b0:Below w.heap.size w (w.alloc (.cells #[.pointer (some ⟨B,0,none⟩)] 23)):=Ct w _;have b1:=Ct (w.alloc (.cells #[.pointer (some ⟨B,0,none⟩)] 23)) (.map #[] 0);have hb:=b0.trans (b1.mono (by simp));have hm:=Ah.new (w.alloc (.cells #[.pointer (some ⟨B,0,none⟩)] 23));rw[World.size_alloc]at hm;exact⟨h.below hb,hW.below hb,(Af.new w _ _).below b1,hm,hb⟩
section
variable {B0 b:Nat} {nm:ByteArray} {D:List Nd} {pls:ByteArray->List Pl} {beg:ByteArray->List ByteArray} {w:World}
set_option maxHeartbeats 8000000
theorem YJ (hS:AS) (h:Dr B0 b nm D pls beg w) {B bw off c:Nat} {ws:List ByteArray} {x:ByteArray} (hW:La w B bw off c 1 (x::ws)):
  Calls Tryz.prog 11 #[.pointer (some ⟨b,0,none⟩),.string nm,.pointer (some ⟨B,0,none⟩)] w fun e w'=>Cq w (fun r=>cn (Cx (Ea pls (x::ws))) r) 10000 e w':=by
 have HS:Hid AS:=hS;have HD:Hid (Dr B0 b nm D pls beg w):=h;obtain⟨n,hn⟩:∃n,ws.length=n:=⟨_,rfl⟩;have HN:Hid (ws.length=n):=hn;have hrow:=hW.at'
 have HR:Hid (∀k (hk:k<ws.length),w.cell? ⟨bw,off+1+k,none⟩=some (.string ws[k])):=fun k hk=>by
  have:=hrow (k+1) (by simpa using hk);rw[show off+1+k=off+(k+1) by omega];simpa using this
 have hcap:n+1<=c:=by have:=hW.cap;rw[List.length_cons]at this;omega
 have i1:(0:Int)<((n+1:Nat):Int):=by omega
 have hbw:=hW.lt;have hnsm:n<=1000000:=by have:=hW.sm;rw[List.length_cons]at this;omega
 have HM:Hid _:=HE.new h hW;obtain⟨W1,hW1⟩:∃W1,(w.alloc (.cells #[.pointer (some ⟨B,0,none⟩)] 23)).alloc (.map #[] 0)=W1:=⟨_,rfl⟩;rw[hW1]at HM;have k0:=HM.out.ws.kind;have k1:W1.cell? ⟨B,1,none⟩=some (.slice (some ⟨bw,off,none⟩) (n+1) c):=by have:=HM.out.ws.row;rw[List.length_cons,hn]at this;exact this
 have k2:W1.cell? ⟨bw,off,none⟩=some (.string x):=HM.out.ws.at' 0 (by simp);have HK1:Hid (∀wx,La wx B bw off c 1 (x::ws)->wx.cell? ⟨B,1,none⟩=some (.slice (some ⟨bw,off,none⟩) (n+1) c)):=fun wx hx=>by have:=hx.row;rw[List.length_cons,hn]at this;exact this
 have HIS:Hid _:=M7 x W1;have hmm:= @run_makeMap Tryz.prog;have eg1:=enters_of Tryz.func31 (by kernel_rfl) rfl;rw[<-hW1]at k0 k1 k2 HIS;have HWE:Hid ((w.alloc (.cells #[.pointer (some ⟨B,0,none⟩)] 23)).alloc (.map #[] 0)=W1):=hW1;clear hS h hrow hn hW hW1;go_enter Tryz.func11,Tryz.ntmps11;go_wp2_with fail;refine(show Calls _ _ _ _ _ from HIS.out).mono ?_;rintro _ w3 ⟨rfl,h3⟩;have hW1:=HWE.out;rw[hW1]at h3 ⊢;have b2:Below W1.heap.size W1 w3:=by rw[h3];exact Ct W1 _
 have o3:Af W1.heap.size (.string x) w3:=by rw[h3];exact Af.new W1 _ _
 have HM3:Hid _:=HE.step HM.out b2;have HOF:Hid _:=FA HS.out HM3.out.dr o3;clear h3 hW1 HWE b2 o3 HIS k0 k1 k2 HM;obtain⟨b5,hb5⟩:∃b5,W1.heap.size=b5:=⟨_,rfl⟩;obtain⟨m,hm⟩:∃m,w.heap.size+1=m:=⟨_,rfl⟩;have HMM:Hid (w.heap.size+1=m):=hm;rw[hm]at HM3 ⊢;rw[hb5]at HOF ⊢;clear hb5 hm;go_wp2_with fail;refine(show Calls _ _ _ _ _ from HOF.out).mono ?_;rintro _ w4 ⟨v4,rfl,hi4,hb4⟩;have HI4:Hid (InP w4 v4 (pls x)):=hi4;have HE4:Hid _:=HE.step HM3.out hb4;have HB4:Hid (Below w.heap.size w w4):=HE4.out.b;have HM4:Hid (Ah m 0 (fun _=>0) w4):=HE4.out.mp;have c4:=HE4.out.bx.cell;have k4:=HK1.out _ HE4.out.ws;clear hi4 hb4 HOF HM3 HK1 HE4
 go_upto_region 19 with fail
 go_cut [125,126,127] (fun v l i wx=>∃a,v= .slice a n (c-1)/\(l= .int .i64 n/\i= .int .i64 0)/\Hid (n=0\/a=some ⟨bw,off+1,none⟩)/\wx=w4)
 case first=>
  by_cases hcc:c=1
  ·have hn0:n=0:=by omega
   subst hcc hn0;go_wp2_with fail;go_meet;exact⟨_,rfl,⟨rfl,rfl⟩,(by first|exact .inl rfl|exact .inl trivial|exact trivial),(by first|rfl|trivial)⟩
  ·go_wp2_with fail
   go_meet;exact⟨_,rfl,⟨by go_num,rfl⟩,.inr rfl,rfl⟩
 case rest=>
  obtain⟨a1,rfl,⟨rfl,rfl⟩,HA,hwx⟩:=hcut;subst hwx;obtain⟨T,hT⟩:∃T,CP pls (pls x) ws=T:=⟨_,rfl⟩;have HT0:Hid (CP pls (pls x) (ws.drop 0)=T):=hT;have HG0:Hid ((∀p∈pls x,OkP p)/\(pls x).Pairwise LtP/\(pls x).length<=500):=⟨HD.out.ok x,HD.out.ris x,HD.out.le x⟩;have HTT:Hid (CP pls (pls x) ws=T):=hT;clear hT;go_wp2;go_loopw [9,127] (fun v i wr=>∃(k:Nat) (s:List Pl),k<=n/\i= .int .i64 k/\Hid (InP wr v s/\(∀p∈s,OkP p)/\s.Pairwise LtP/\s.length<=500)/\Hid (CP pls s (ws.drop k)=T)/\Hid (Ah m 0 (fun _=>0) wr/\Below w.heap.size w wr)) (fun _ i _=>n-(intOf i).toNat)
  case atStart=>exact⟨0,pls x,Nat.zero_le _,rfl,⟨HI4.out,HG0.out⟩,HT0,HM4.out,HB4.out⟩
  case round=>
   clear HI4 HM4 HB4 c4 k4 HT0 HG0;obtain⟨k,s,hk,rfl,HS1,HZ,HMB⟩:=hrel
   by_cases hlt:k<n
   ·have hkw:k<ws.length:=by have:=HN.out;omega
    have ha:a1=some ⟨bw,off+1,none⟩:=by
     rcases HA.out with h|h
     ·omega
     ·exact h
    subst ha;have g1:=(HMB.out.2.cell (p:=⟨bw,off+1+k,none⟩) hbw).trans (HR.out k hkw)
    have HZ2:Hid (CP pls (AC Cz s (pls ws[k])) (ws.drop (k+1))=T):=by
     have:=HZ.out;rw[List.drop_eq_getElem_cons hkw]at this;exact this
    generalize ws[k]=q at *;have i2:(k:Int)<(n:Int):=by omega
    have HIS:Hid _:=M7 q wr;clear HZ hkw;go_wp2_with fail;refine(show Calls _ _ _ _ _ from HIS.out).mono ?_;rintro _ w5 ⟨rfl,h5⟩;have b5:Below wr.heap.size wr w5:=by rw[h5];exact Ct wr _
    have o5:Af wr.heap.size (.string q) w5:=by rw[h5];exact Af.new wr _ _
    have HS5:Hid (InP w5 u9 s/\(∀p∈s,OkP p)/\s.Pairwise LtP/\s.length<=500):=⟨HS1.out.1.below b5,HS1.out.2⟩;have HB5:Hid (Below w.heap.size w w5):=HMB.out.2.trans (b5.mono HMB.out.2.size);have HM5:Hid (Ah m 0 (fun _=>0) w5):=HMB.out.1.below b5;have HOF:Hid _:=FA HS.out (HD.out.below HB5.out) o5;obtain⟨bq,hbq⟩:∃bq,wr.heap.size=bq:=⟨_,rfl⟩;rw[hbq]at HOF ⊢;clear h5 b5 o5 HIS HS1 HMB hbq g1;go_wp2_with fail;refine(show Calls _ _ _ _ _ from HOF.out).mono ?_;rintro _ w6 ⟨v6,rfl,hi6,hb6⟩;have HI6:Hid (InP w6 v6 (pls q)):=hi6;have HS6:Hid (InP w6 u9 s/\(∀p∈s,OkP p)/\s.Pairwise LtP/\s.length<=500):=⟨HS5.out.1.below hb6,HS5.out.2⟩;have HB6:Hid (Below w.heap.size w w6):=HB5.out.trans (hb6.mono HB5.out.size);have HM6:Hid (Ah m 0 (fun _=>0) w6):=HM5.out.below hb6;have hq500:=HD.out.le q;have HFO:Hid _:=KS HS.out u9 v6 s (pls q) w6 HS6.out.1 HI6.out (by have:=HS6.out.2.2.2;omega) (by omega) (Nat.le_trans (WG HS6.out.2.2.1) (by omega)) HS6.out.2.1;clear hi6 hb6 HOF HS5 HB5 HM5 HI6;go_wp2_with fail;refine(show Calls _ _ _ _ _ from HFO.out).mono ?_;rintro _ w7 ⟨v7,T7,rfl,ho7,⟨t1,t2,t3⟩,hb7⟩;obtain⟨f1,f2⟩:=IJ HS6.out.2.2.1 (HD.out.ris q);have e7:T7=AC Cz s (pls q):=OW (R:=LtP) (fun a h=>by unfold LtP at h;omega) (fun a b h k=>by unfold LtP at h k;omega) _ _ t1 f1 fun p=>(t2 p).trans (f2 p).symm;have HS7:Hid (InP w7 v7 T7/\(∀p∈T7,OkP p)/\T7.Pairwise LtP/\T7.length<=500):=⟨InP.of_own ho7 (by omega),fun p hp=>HD.out.ok q p ((If Cz (pls q) s).subset (by rw[<-e7];exact hp)),t1,by rw[e7];exact Nat.le_trans (Jq Cz (pls q) s) hq500⟩;have HB7:Hid (Below w.heap.size w w7):=HB6.out.trans (hb7.mono HB6.out.size);have HM7:Hid (Ah m 0 (fun _=>0) w7):=HM6.out.below hb7;have HZ7:Hid (CP pls T7 (ws.drop (k+1))=T):=by show _=_;rw[e7];exact HZ2.out
    clear ho7 t1 t2 t3 hb7 f1 f2 e7 HFO HS6 HB6 HM6 HZ2;go_wp2;go_roundw
    case rel=>exact⟨k+1,T7,by omega,by go_num,HS7,HZ7,HM7.out,HB7.out⟩
    case measure=>simp[intOf];omega
   ·have e:s=T:=by
     have:=HZ.out;rw[List.drop_eq_nil_of_le (by have:=HN.out;omega)]at this;exact this
    subst e;obtain⟨a8,c8,rfl,hc8,hr8,hn8⟩:=HS1.out.1;obtain⟨w8,hw8⟩:∃w8,w8=wr:=⟨_,rfl⟩;subst hw8;obtain⟨nT,hnT⟩:∃nT,s.length=nT:=⟨_,rfl⟩;have HNT:Hid (s.length=nT):=hnT;have HOK:Hid ((∀p∈s,OkP p)/\s.Pairwise LtP):=⟨HS1.out.2.1,HS1.out.2.2.1⟩;have hT500:nT<=500:=by have:=HS1.out.2.2.2;omega
    have HM8:Hid (Ah m 0 (fun _=>0) w8):=HMB.out.1;have HB8:Hid (Below w.heap.size w w8):=HMB.out.2;have HR8:Hid (FI w8 a8 s.length s):=hr8;rw[hnT];clear HS1 HZ HMB hc8 hr8 hn8 hnT HA;go_wp2;go_loopw [142] (fun i wq=>∃k,k<=nT/\i= .int .i64 k/\Hid (Ah m k (fun r=>cnt (s.take k) r) wq/\Aa (fun b=>b=m) w8 wq)) (fun i _=>nT-(intOf i).toNat)
    case atStart=>exact⟨0,Nat.zero_le _,rfl,HM8.out.as fun i=>by simp[cnt],Aa.refl _ _⟩
    case round=>
     obtain⟨k,hk,rfl,HK⟩:=hrel
     by_cases hlt:k<nT
     ·have hks:k<s.length:=by have:=HNT.out;omega
      rcases HR8.out.2.2 with h0|⟨b1,o1,rfl,hb1,hrow1⟩
      ·simp[h0]at hks
      obtain⟨g1,g2⟩:=hrow1 k hks;have hne:b1≠m:=HM8.out.ne g1;rw[<-HK.out.2.cell hb1 hne]at g1 g2;obtain⟨y1,y2,y3,y4⟩:=HOK.out.1 s[k] (List.getElem_mem hks);obtain⟨C,hC⟩:∃C,cnt (s.take k) s[k].r=C:=⟨_,rfl⟩;have hC0:0<=C:=by rw[<-hC];exact K5 _ _
      have hC1:C<=500:=by
       have h1:=Vm (s.take k) s[k].r;have h2:=List.length_take_le k s;omega
      have HST:Hid _:=Ox hks hC;have HCC:Hid ((fun r=>cnt (s.take k) r) s[k].r=C):=hC;generalize s[k]=p at *;have HKA:Hid (Ah m k (fun r=>cnt (s.take k) r) (wr.alloc (.cells #[.int .i64 p.r,.int .i64 p.a] 81))):=HK.out.1.below (Ct wr _);have HOA:Hid (Aa (fun b=>b=m) w8 (wr.alloc (.cells #[.int .i64 p.r,.int .i64 p.a] 81))):=HK.out.2.trans (Aa.alloc m _ _) fun i h=> .inl h;clear HK hrow1 hne hb1 hC hks;have i2:(k:Int)<(nT:Int):=by omega
      go_wp2_with (first
       |(refine UC _ rfl _ _ rfl HKA.out HCC.out (by omega) (by omega) rfl rfl ?_)
       |(refine N4 _ rfl _ _ _ rfl HKA.out (by omega) _ (C+1) (by omega) (by omega) (by omega) (by omega) HST.out rfl rfl rfl ?_;intro w9 hk9 ho9;have HK9:Hid (Ah m (k+1) (fun r=>cnt (s.take (k+1)) r) w9/\Aa (fun b=>b=m) w8 w9):=⟨hk9,HOA.out.trans ho9 fun i h=> .inl h⟩;clear hk9 ho9))
      go_roundw
      case rel=>exact⟨k+1,by omega,by go_num,HK9.out⟩
      case measure=>simp[intOf];omega
     ·have e:k=nT:=by omega
      have HF:Hid (Ah m k (fun r=>cn (Cx (Ea pls (x::ws))) r) wr/\Below w.heap.size w wr/\w.heap.size<=m):=by
       refine⟨HK.out.1.as fun r=> ?_,Aa.below HB8.out HK.out.2 HB8.out.size (fun i h=>by have:=HMM.out;omega),by have:=HMM.out;omega⟩;rw[e,<-HNT.out,List.take_length];rw[show Ea pls (x::ws)=s from HTT.out];exact(QT r HOK.out.2).symm
      clear HK e;go_wp2;go_ret;exact⟨m,k,rfl,HF.out.2.2,by omega,HF.out.1,HF.out.2.1⟩
end
section
variable {B0 b:Nat} {nm:ByteArray} {D:List Nd} {pls:ByteArray->List Pl} {beg:ByteArray->List ByteArray} {w:World}
set_option maxHeartbeats 8000000
theorem YI (hS:AS) (h:Dr B0 b nm D pls beg w) {B bw off c:Nat} {x:ByteArray} (hW:La w B bw off c 2 [x]):
  Calls Tryz.prog 11 #[.pointer (some ⟨b,0,none⟩),.string nm,.pointer (some ⟨B,0,none⟩)] w fun e w'=>Cq w (fun r=>cn (FO pls [] (beg x)) r) 10000 e w':=by
 have HD:Hid (Dr B0 b nm D pls beg w):=h;have HM:Hid _:=HE.new h hW;obtain⟨W1,hW1⟩:∃W1,(w.alloc (.cells #[.pointer (some ⟨B,0,none⟩)] 23)).alloc (.map #[] 0)=W1:=⟨_,rfl⟩;rw[hW1]at HM;have k0:=HM.out.ws.kind;have HOF:Hid _:=RV (n:=0) hS HM.out.dr HM.out.bx HM.out.ws.row (HM.out.ws.at' 0 (by simp));rw[<-hW1]at k0 HOF;have HWE:Hid ((w.alloc (.cells #[.pointer (some ⟨B,0,none⟩)] 23)).alloc (.map #[] 0)=W1):=hW1;have hmf:∀(fn:Fn) (first cap:Array Value) (w:World),(Instr.makeFunc fn first cap).run Tryz.prog w= .ok (.func fn first cap) w:=fun _ _ _ _=>rfl;have hmm:= @run_makeMap Tryz.prog;clear hS h hW hW1;go_enter Tryz.func11,Tryz.ntmps11;go_wp2_with fail;refine(show Calls _ _ _ _ _ from HOF.out).mono ?_;rintro _ w8 ⟨v8,s,rfl,hi8,⟨t1,t2,t3,t4⟩,hb8⟩;rw[HWE.out]at hb8;have HE8:Hid _:=HE.step HM.out hb8;have HM8:Hid (Ah (w.heap.size+1) 0 (fun _=>0) w8):=HE8.out.mp;have HB8:Hid (Below w.heap.size w w8):=HE8.out.b;have HT4:Hid (∀r,cn (FO pls [] (beg x)) r=cnt s r):=t4;have HOK:Hid (∀p∈s,OkP p):=t3;obtain⟨a8,c8,rfl,hc8,hr8,hn8⟩:=hi8;obtain⟨m,hm⟩:∃m,w.heap.size+1=m:=⟨_,rfl⟩;have HMM:Hid (w.heap.size+1=m):=hm;rw[hm]at HM8;have HR8:Hid (FI w8 a8 s.length s):=hr8;obtain⟨nT,hnT⟩:∃nT,s.length=nT:=⟨_,rfl⟩;have HNT:Hid (s.length=nT):=hnT;have hT500:nT<=500:=by omega
 rw[hnT];clear HWE HM HE8 HOF hb8 t1 t2 t3 t4 hc8 hr8 hn8 hnT k0
 first|rw[hm]|skip
 clear hm;go_wp2;go_loopw [159] (fun i wq=>∃k,k<=nT/\i= .int .i64 k/\Hid (Ah m k (fun r=>cnt (s.take k) r) wq/\Aa (fun b=>b=m) w8 wq)) (fun i _=>nT-(intOf i).toNat)
 case atStart=>exact⟨0,Nat.zero_le _,rfl,HM8.out.as fun i=>by simp[cnt],Aa.refl _ _⟩
 case round=>
  obtain⟨k,hk,rfl,HK⟩:=hrel
  by_cases hlt:k<nT
  ·have hks:k<s.length:=by have:=HNT.out;omega
   rcases HR8.out.2.2 with h0|⟨b1,o1,rfl,hb1,hrow1⟩
   ·simp[h0]at hks
   obtain⟨g1,g2⟩:=hrow1 k hks;have hne:b1≠m:=HM8.out.ne g1;rw[<-HK.out.2.cell hb1 hne]at g1 g2;obtain⟨y1,y2,y3,y4⟩:=HOK.out s[k] (List.getElem_mem hks);obtain⟨C,hC⟩:∃C,cnt (s.take k) s[k].r=C:=⟨_,rfl⟩;have hC0:0<=C:=by rw[<-hC];exact K5 _ _
   have hC1:C<=500:=by
    have h1:=Vm (s.take k) s[k].r;have h2:=List.length_take_le k s;omega
   have HST:Hid _:=Ox hks hC;have HCC:Hid ((fun r=>cnt (s.take k) r) s[k].r=C):=hC;generalize s[k]=p at *;have HKA:Hid (Ah m k (fun r=>cnt (s.take k) r) (wr.alloc (.cells #[.int .i64 p.r,.int .i64 p.a] 81))):=HK.out.1.below (Ct wr _);have HOA:Hid (Aa (fun b=>b=m) w8 (wr.alloc (.cells #[.int .i64 p.r,.int .i64 p.a] 81))):=HK.out.2.trans (Aa.alloc m _ _) fun i h=> .inl h;clear HK hrow1 hne hb1 hC hks;have i2:(k:Int)<(nT:Int):=by omega
   go_wp2_with (first
    |(refine UC _ rfl _ _ rfl HKA.out HCC.out (by omega) (by omega) rfl rfl ?_)
    |(refine N4 _ rfl _ _ _ rfl HKA.out (by omega) _ (C+1) (by omega) (by omega) (by omega) (by omega) HST.out rfl rfl rfl ?_;intro w9 hk9 ho9;have HK9:Hid (Ah m (k+1) (fun r=>cnt (s.take (k+1)) r) w9/\Aa (fun b=>b=m) w8 w9):=⟨hk9,HOA.out.trans ho9 fun i h=> .inl h⟩;clear hk9 ho9))
   go_roundw
   case rel=>exact⟨k+1,by omega,by go_num,HK9.out⟩
   case measure=>simp[intOf];omega
  ·have e:k=nT:=by omega
   have HF:Hid (Ah m k (fun r=>cn (FO pls [] (beg x)) r) wr/\Below w.heap.size w wr/\w.heap.size<=m):=by
    refine⟨HK.out.1.as fun r=> ?_,Aa.below HB8.out HK.out.2 HB8.out.size (fun i h=>by have:=HMM.out;omega),by have:=HMM.out;omega⟩;rw[e,<-HNT.out,List.take_length];exact(HT4.out r).symm
   clear HK e;go_wp2;go_ret;exact⟨m,k,rfl,HF.out.2.2,by omega,HF.out.1,HF.out.2.1⟩
end
section
variable {B0 b:Nat} {nm:ByteArray} {D:List Nd} {pls:ByteArray->List Pl} {beg:ByteArray->List ByteArray} {w:World}
set_option maxHeartbeats 8000000
theorem YH (hS:AS) (hS2:CI) (h:Dr B0 b nm D pls beg w) {B bw off c:Nat} {x y:ByteArray} (hW:La w B bw off c 3 [x,y]):
  Calls Tryz.prog 11 #[.pointer (some ⟨b,0,none⟩),.string nm,.pointer (some ⟨B,0,none⟩)] w fun e w'=>Cq w (fun r=>cn (Ed pls x y) r) 10000 e w':=by
 have HS:Hid AS:=hS;have HS2:Hid CI:=hS2;have HD:Hid (Dr B0 b nm D pls beg w):=h;have HM:Hid _:=HE.new h hW;have hmm:= @run_makeMap Tryz.prog;have eg1:=enters_of Tryz.func31 (by kernel_rfl) rfl;obtain⟨W1,hW1⟩:∃W1,(w.alloc (.cells #[.pointer (some ⟨B,0,none⟩)] 23)).alloc (.map #[] 0)=W1:=⟨_,rfl⟩;rw[hW1]at HM;have k0:=HM.out.ws.kind;rw[<-hW1]at k0;have HWE:Hid ((w.alloc (.cells #[.pointer (some ⟨B,0,none⟩)] 23)).alloc (.map #[] 0)=W1):=hW1;clear hS hS2 h hW hW1;go_enter Tryz.func11,Tryz.ntmps11
 go_upto_region 36 with fail
 rw[HWE.out];have HM:Hid _:=HE.step HM.out (Below.refl _ _).drew;have A1:Hid True:=trivial;clear k0 HWE
 go_region_held3 (fun wx=>wx.cell? ⟨w.heap.size,0,none⟩=some (.pointer (some ⟨B,0,none⟩))/\wx.cell? ⟨B,1,none⟩=some (.slice (some ⟨bw,off,none⟩) 2 c)/\wx.cell? ⟨bw,off,none⟩=some (.string x)/\wx.cell? ⟨bw,off+1,none⟩=some (.string y))
  (exact⟨HM.out.bx.cell,HM.out.ws.row,HM.out.ws.at' 0 (by simp),HM.out.ws.at' 1 (by simp)⟩)
  (first
    |(go_at_call 33;refine Calls.mono (FA HS.out HM.out.dr HO2.out) ?_;rintro _ w5 ⟨v2,rfl,hi2,hb5⟩;have HI2:Hid (InP w5 v2 (pls y)):=hi2;have HI1:Hid (InP w5 v1 (pls x)):=HI1.out.below hb5;have HM:Hid _:=HE.step HM.out hb5;clear HO2 hb5 hi2)
    |(go_at_call 33;refine Calls.mono (FA HS.out HM.out.dr HO1.out) ?_;rintro _ w3 ⟨v1,rfl,hi1,hb3⟩;have HI1:Hid (InP w3 v1 (pls x)):=hi1;have HM:Hid _:=HE.step HM.out hb3;clear HO1 hb3 hi1)
    |(go_at_call 37;refine Calls.mono (Nx HS2.out v1 v2 3 (pls x) (pls y) _ HI1.out HI2.out (by have:=HD.out.le x;omega) (by have:=HD.out.le y;omega) (Nat.le_trans (U1 (HD.out.ris y)) (by have:=HD.out.le x;omega)) (HD.out.ok x) (HD.out.ok y)) ?_;rintro _ w8 ⟨v8,T,rfl,ho8,ht8,hb8⟩;obtain⟨a8,c8,rfl,hx8⟩:=W8 ho8;have HX8:Hid _:=hx8;have HT8:Hid (T.Pairwise (·< ·)/\(∀z,z∈T↔z∈AT (BT 3) (pls x) (pls y))/\T.length<=10000):=ht8;have HM:Hid _:=HE.step HM.out hb8;clear HI1 HI2 ho8 ht8 hb8 hx8)
    |(go_at_call 31;have A3:=HI1;refine Calls.mono (YC y _) ?_;rintro _ w4 ⟨rfl,ho4,hb4⟩;have HO2:Hid (Af _ (.string y) w4):=ho4;have HI1:Hid (InP w4 v1 (pls x)):=HI1.out.below hb4;have HM:Hid _:=HE.step HM.out hb4;clear ho4 hb4 A3)
    |(go_at_call 31;have A2:=A1;refine Calls.mono (YC x _) ?_;rintro _ w2 ⟨rfl,ho2,hb2⟩;have HO1:Hid (Af _ (.string x) w2):=ho2;have HM:Hid _:=HE.step HM.out hb2;clear ho2 hb2 A1 A2))
 obtain⟨nT,hnT⟩:∃nT,T.length=nT:=⟨_,rfl⟩;have HNT:Hid (T.length=nT):=hnT;have hTl:nT<=10000:=by have:=HT8.out.2.2;omega
 have HM8:Hid (Ah (w.heap.size+1) 0 (fun _=>0) w8):=HM.out.mp;have HB8:Hid (Below w.heap.size w w8):=HM.out.b
 have HOK:Hid (∀z∈T,1<=z/\z<=1073741824):=fun z hz=>by
  obtain⟨p,hp,q,hq,e,_⟩:=L7.1 ((HT8.out.2.1 z).1 hz);have:=HD.out.ok x p hp;unfold OkP at this;omega
 have HCN:Hid (∀r,(if r∈T then(1:Int)else 0)=cn (Ed pls x y) r):=fun r=>by
  obtain⟨n1,n2⟩:=IB 3 (HD.out.ris x) (HD.out.ris y);rw[WS];have:r∈T↔r∈Ag 3 [] (pls x) (pls y):=((HT8.out.2.1 r).trans L7).trans (n2 r).symm
  by_cases e:r∈T
  ·rw[if_pos e,if_pos (this.1 e)]
  ·rw[if_neg e,if_neg (fun h=>e (this.2 h))]
 rw[hnT];obtain⟨m,hm⟩:∃m,w.heap.size+1=m:=⟨_,rfl⟩;have HMM:Hid (w.heap.size+1=m):=hm;rw[hm]at HM8 ⊢;clear HM HT8 hnT hm;go_wp2;go_loopw [195] (fun i wq=>∃k,k<=nT/\i= .int .i64 k/\Hid (Ah m k (fun r=>if r∈T.take k then 1 else 0) wq/\Aa (fun b=>b=m) w8 wq)) (fun i _=>nT-(intOf i).toNat)
 case atStart=>exact⟨0,Nat.zero_le _,rfl,HM8.out.as fun i=>by simp,Aa.refl _ _⟩
 case round=>
  obtain⟨k,hk,rfl,HK⟩:=hrel
  by_cases hlt:k<nT
  ·have hks:k<T.length:=by have:=HNT.out;omega
   rcases HX8.out with h0|⟨b1,rfl,hb1,hrow1⟩
   ·simp[h0]at hks
   have g1:=hrow1 k hks;have hne:b1≠m:=HM8.out.ne g1;rw[<-HK.out.2.cell hb1 hne]at g1;obtain⟨y1,y2⟩:=HOK.out T[k] (List.getElem_mem hks);have HST:Hid _:=Yb T k hks;generalize T[k]=z at *;have HKA:Hid (Ah m k (fun r=>if r∈T.take k then 1 else 0) wr):=HK.out.1;have HOA:Hid (Aa (fun b=>b=m) w8 wr):=HK.out.2;clear HK hrow1 hne hb1 hks;have i2:(k:Int)<(nT:Int):=by omega
   go_wp2_with (refine N4 _ rfl _ _ _ rfl HKA.out (by omega) _ 1 (by omega) (by omega) (by omega) (by omega) HST.out rfl rfl rfl ?_;intro w9 hk9 ho9;have HK9:Hid (Ah m (k+1) (fun r=>if r∈T.take (k+1)then 1 else 0) w9/\Aa (fun b=>b=m) w8 w9):=⟨hk9,HOA.out.trans ho9 fun i h=> .inl h⟩;clear hk9 ho9)
   go_roundw
   case rel=>exact⟨k+1,by omega,by go_num,HK9.out⟩
   case measure=>simp[intOf];omega
  ·have e:k=nT:=by omega
   have HF:Hid (Ah m k (fun r=>cn (Ed pls x y) r) wr/\Below w.heap.size w wr/\w.heap.size<=m):=by
    refine⟨HK.out.1.as fun r=> ?_,Aa.below HB8.out HK.out.2 HB8.out.size (fun i h=>by have:=HMM.out;omega),by have:=HMM.out;omega⟩;rw[e,<-HNT.out,List.take_length];exact HCN.out r
   clear HK e;go_wp2;go_ret;exact⟨m,k,rfl,HF.out.2.2,by omega,HF.out.1,HF.out.2.1⟩
end
def gF (k:Int) (ca cb:Int->Int) (r:Int):Int:=if A8 k (decide (0<ca r)) (decide (0<cb r))then ca r+cb r else 0
def neB (c:Int->Int) (r:Int):Bool:=decide (c r≠0)
def CB (c:Int->Int):Prop:=∀r,0<=c r/\c r<=1000000000/\(c r≠0->1<=r/\r<=1073741824)
theorem gF4 (ca cb:Int->Int) (r:Int):gF 4 ca cb r=if 0<ca r/\0<cb r then ca r+cb r else 0:=by
 unfold gF A8
 by_cases h1:0<ca r<;>by_cases h2:0<cb r<;>simp[h1,h2]
theorem gF5 (ca cb:Int->Int) (r:Int):gF 5 ca cb r=ca r+cb r:=rfl
theorem gF6 (ca cb:Int->Int) (r:Int):gF 6 ca cb r=if 0<cb r then 0 else ca r+cb r:=by
 unfold gF A8
 by_cases h2:0<cb r<;>simp[h2]
theorem Ah.look {m n:Nat} {c:Int->Int} {w:World} (h:Ah m n c w) {r C:Int} (hC:c r=C) (h0:0<=r) (h1:r<=10000000000):(Instr.lookup 44 (.map (some m)) (.int .i64 r) false).run Tryz.prog w= .ok (.int .i64 C) w:=by
 obtain⟨D,hD,hM,_⟩:=h;obtain⟨c',hrun,hc,_⟩:=hD.lookup_int (t:=44) BF Tryz.underlying44 Tryz.underlying3 (Tn w) (keyOf_int_mk Tryz.underlying3 (I2 h0 h1));rw[show Lit.int .i64 r=rl r from rfl]at hc
 have e:c'=C:=by
  by_cases e:c r=0
  ·rw[atKey_of_not_has (hM.not e)]at hc
   rw[<-hC,e];simpa using hc.symm
  ·rw[hM.elem r e,hC]at hc
   simpa using hc.symm
 rw[<-e];exact hrun
theorem Xm {o:Oper} {a:Act} {K:Act->World->Prop} {Q:Exit->Act->World->Prop} {m n:Nat} {c d:Int->Int} {w:World} {r y:Int} (hS:Ah m n c w) (hnn:n<1000000000) (h0:0<=r) (h1:r<=10000000000) (h2:0<y) (h3:y<=10000000000) (hd:∀j,(if j=r then y else c j)=d j)
  (hK:∀w',Ah m (n+1) d w'->Aa (fun b=>b=m) w w'->K (a.put o.dst undef) w'):Oper.upon Tryz.prog o a K Q (((Instr.mapUpdate 44 (.map (some m)) (.int .i64 r) (.int .i64 y)).run Tryz.prog w).andThen fun _ w'=> .ok .skip w'):=by
 obtain⟨D,hD,hM,hs⟩:=hS;obtain⟨w',hrun,r1,r2⟩:=hD.update BF Tryz.underlying44 (Nat.lt_trans hnn (by decide)) (keyOf_int_mk Tryz.underlying3 (I2 h0 h1)) (plainElem_int Tryz.underlying3 (I2 (Int.le_of_lt h2) h3));rw[hrun];refine hK w' (Ah.as ⟨_,r1,hM.put (hD.tidy BF) r (by omega),?_⟩ hd) (Aa.of_grown r2 rfl);rw[show(Lit.int .i64 r)=rl r from rfl,size_put (hD.tidy BF)];split<;>omega
structure EN (w:World) (B0 b:Nat) (nm:ByteArray) (D:List Nd) (pls:ByteArray->List Pl) (beg:ByteArray->List ByteArray) (B:Nat) (Env:World->Prop) (m:Nat) (wx:World):Prop where
 dr:Dr B0 b nm D pls beg wx
 ev:Env wx
 bx:Af w.heap.size (.pointer (some ⟨B,0,none⟩)) wx
 mp:Ah m 0 (fun _=>0) wx
 b:Below w.heap.size w wx
section
variable {w:World} {B0 b:Nat} {nm:ByteArray} {D:List Nd} {pls:ByteArray->List Pl} {beg:ByteArray->List ByteArray} {B:Nat} {Env:World->Prop} {m:Nat} {wx wy:World}
theorem EN.step (h:EN w B0 b nm D pls beg B Env m wx) (hE:∀ {wx wy},Env wx->Below wx.heap.size wx wy->Env wy) (hb:Below wx.heap.size wx wy):EN w B0 b nm D pls beg B Env m wy:=
 ⟨h.dr.below hb,hE h.ev hb,h.bx.below hb,h.mp.below hb,h.b.trans (hb.mono h.b.size)⟩
theorem EN.new (h:Dr B0 b nm D pls beg w) (he:Env w) (hE:∀ {wx wy},Env wx->Below wx.heap.size wx wy->Env wy):EN w B0 b nm D pls beg B Env (w.heap.size+1) ((w.alloc (.cells #[.pointer (some ⟨B,0,none⟩)] 23)).alloc (.map #[] 0)):=by
 have b0:=Ct w (.cells #[.pointer (some ⟨B,0,none⟩)] 23);have b1:=Ct (w.alloc (.cells #[.pointer (some ⟨B,0,none⟩)] 23)) (.map #[] 0);have hb:=b0.trans (b1.mono (by simp));have hm:=Ah.new (w.alloc (.cells #[.pointer (some ⟨B,0,none⟩)] 23));rw[World.size_alloc]at hm;exact⟨h.below hb,hE he hb,(Af.new w _ _).below b1,hm,hb⟩
end
structure HT (w:World) (B:Nat) (k:Int) (m ma mb ka kb:Nat) (ca cb:Int->Int) (wx:World):Prop where
 bx:wx.cell? ⟨w.heap.size,0,none⟩=some (.pointer (some ⟨B,0,none⟩))
 kd:wx.cell? ⟨B,0,none⟩=some (.int .i64 k)
 ra:Ah ma ka ca wx
 rb:Ah mb kb cb wx
 b:Below w.heap.size w wx
 ne:B<w.heap.size/\w.heap.size<m/\m<ma/\ma<mb
section
variable {w:World} {B:Nat} {k:Int} {m ma mb ka kb:Nat} {ca cb:Int->Int} {wx wy:World}
theorem HT.only {S:Nat->Prop} (h:HT w B k m ma mb ka kb ca cb wx) (ho:Aa S wx wy) (hS:∀i,S i->i=m\/mb<i):HT w B k m ma mb ka kb ca cb wy:=by
 obtain⟨q1,q2,q3,q4⟩:=h.ne;have l1:=h.rb.lt;have l2:=h.b.size;have l3:w.heap.size<wx.heap.size:=World.block_lt_of_cell? wx _ h.bx;refine⟨(ho.cell l3 (fun e=> ?_) 0).trans h.bx,(ho.cell (by omega) (fun e=> ?_) 0).trans h.kd,h.ra.only ho (fun e=> ?_),h.rb.only ho (fun e=> ?_),Aa.below h.b ho l2 (fun i e=> ?_),h.ne⟩<;>(have:=hS _ e;omega)
end
structure R1 (g:Int->Int) (m mx kx:Nat) (cx:Int->Int) (D:DataW Unit) (r2 n0:Nat) (eb:Int->Bool) (left:Lit->Bool) (cnt:Nat) (Z:List Int) (wq:World):Prop where
 rg:wq.ranges Tryz.prog 3 (plainElem Tryz.prog 3) mx r2 kx D left cnt
 hf:FP D cx
 rn:Lb cx Z left
 mp:Ah m (n0+Z.length) (fun r=>if eb r=true\/r∈Z then g r else 0) wq
 sz:Z.length+cnt<=kx
section
variable {g:Int->Int} {m mx kx:Nat} {cx:Int->Int} {D:DataW Unit} {r2 n0:Nat} {eb:Int->Bool} {left:Lit->Bool} {cnt:Nat} {Z:List Int} {wq w7:World}
structure N1 (g:Int->Int) (m mx kx:Nat) (cx:Int->Int) (D:DataW Unit) (r2 n0:Nat) (eb:Int->Bool) (left:Lit->Bool) (cnt cnt7:Nat) (Z:List Int) (x:Int) (w7:World):Prop where
 rg:w7.ranges Tryz.prog 3 (plainElem Tryz.prog 3) mx r2 kx D (fun z=>left z && !z.sameKey (rl x)) cnt7
 hf:FP D cx
 rn:Lb cx (x::Z) (fun z=>left z && !z.sameKey (rl x))
 mp:Ah m (n0+Z.length) (fun r=>if eb r=true\/r∈Z then g r else 0) w7
 sz:(x::Z).length+cnt7<=kx
 lt:cnt7<cnt
 cx0:cx x≠0
theorem R1.next (h:R1 g m mx kx cx D r2 n0 eb left cnt Z wq) {x:Int} {cnt7:Nat} (hl:left (.int .i64 x)=true) (hrg:w7.ranges Tryz.prog 3 (plainElem Tryz.prog 3) mx r2 kx D (fun z=>left z && !z.sameKey (.int .i64 x)) cnt7) (hlt:cnt7<cnt) (hg:wq.grownBy w7 (some r2)) (hm:m≠r2):N1 g m mx kx cx D r2 n0 eb left cnt cnt7 Z x w7:=
 ⟨hrg,h.hf,h.rn.step hl,h.mp.only (Aa.of_grown (S:=fun b=>b=r2) hg rfl) hm,by have:=h.sz;simp only[List.length_cons];omega,hlt,((h.rn.l x).1 hl).1⟩
theorem FP.at_ {c:Int->Int} (h:FP D c) {x v:Int} (hx:c x≠0) (hat:∀z,D.atKey (.int .i64 x) z= .lit (.int .i64 v)):v=c x:=by
 have:=hat (.lit (.int .i64 0));rw[show Lit.int .i64 x=rl x from rfl,h.elem x hx]at this;simpa using this.symm
theorem N1.skip {cnt7:Nat} {x:Int} (h:N1 g m mx kx cx D r2 n0 eb left cnt cnt7 Z x w7) (hx:g x=0\/eb x=true):R1 g m mx kx cx D r2 n0 eb (fun z=>left z && !z.sameKey (rl x)) cnt7 (x::Z) w7:=
 ⟨h.rg,h.hf,h.rn,(h.mp.mono (by simp only[List.length_cons];omega)).as fun r=>by
   by_cases e:r=x
   ·subst e
    rcases hx with hx|hx
    ·rw[hx,ite_self,ite_self]
    ·rw[if_pos (.inl hx),if_pos (.inl hx)]
   ·have:r∈x::Z↔r∈Z:=by simp[e]
    simp only[this],h.sz⟩
theorem N1.putD {cnt7:Nat} {x y:Int} (h:N1 g m mx kx cx D r2 n0 eb left cnt cnt7 Z x w7) (hy:g x=y):∀j,(if j=x then y else if eb j=true\/j∈Z then g j else 0)=if eb j=true\/j∈x::Z then g j else 0:=fun j=>by
 have:=h.lt
 by_cases e:j=x
 ·subst e
  rw[if_pos rfl,if_pos (.inr (List.mem_cons_self ..)),hy]
 ·have:j∈x::Z↔j∈Z:=by simp[e]
  rw[if_neg e];simp only[this]
theorem N1.put {cnt7:Nat} {x:Int} {w9:World} (h:N1 g m mx kx cx D r2 n0 eb left cnt cnt7 Z x w7) (hm:Ah m (n0+Z.length+1) (fun r=>if eb r=true\/r∈x::Z then g r else 0) w9) (ho:Aa (fun b=>b=m) w7 w9) (h1:mx≠m) (h2:r2≠m):R1 g m mx kx cx D r2 n0 eb (fun z=>left z && !z.sameKey (rl x)) cnt7 (x::Z) w9:=
 ⟨World.ranges.kept (row:=some m) h.rg ⟨ho.os,ho.tape,ho.output,ho.size,fun i hi hne=>ho.block i hi (fun e=>hne (by rw[show i=m from e]))⟩ (fun e=>h1 (Option.some.inj e)) (fun e=>h2 (Option.some.inj e)),h.hf,h.rn,hm,h.sz⟩
theorem R1.start {w8:World} (hrg:w8.ranges Tryz.prog 3 (plainElem Tryz.prog 3) mx r2 kx D (Maps.has D) (Maps.size D)) (hf:FP D cx) (hs:Maps.size D<=kx) (hm:Ah m n0 (fun r=>if eb r=true then g r else 0) w8):R1 g m mx kx cx D r2 n0 eb (Maps.has D) (Maps.size D) [] w8:=
 ⟨hrg,hf,Lb.start hf,hm.as fun r=>by simp,by simpa using hs⟩
end
end
end Go.Proofs.YtgfldnaahojnlaaGreatDoor
