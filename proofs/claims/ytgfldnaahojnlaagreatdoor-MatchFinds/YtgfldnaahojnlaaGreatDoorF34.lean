/- MatchFinds: part 34. -/
import Derived.Test.YtgfldnaahojnlaaGreatDoorF33
set_option maxRecDepth 100000
set_option maxHeartbeats 4000000
namespace Go.Proofs.YtgfldnaahojnlaaGreatDoor
section
open Go.RowKit
structure CE (w:World) (bp:Nat) (q:Pl) (v:Value) (l:List Ht) (wx:World):Prop where
 c:wx.cell? ⟨bp,0,none⟩=some (.int .i64 q.r)
 lo:w.heap.size<=bp
 hi:bp<wx.heap.size
 b:Below w.heap.size w wx
 o:wx.ownsRow w.heap.size 47 2 v l.length (htc l)
theorem CE.step {w wx wy:World} {bp:Nat} {q:Pl} {v:Value} {l:List Ht} (h:CE w bp q v l wx) (hb:Below wx.heap.size wx wy):CE w bp q v l wy:=
 ⟨by rw[hb.cell (p:=⟨bp,_,none⟩) h.hi];exact h.c,h.lo,Nat.lt_of_lt_of_le h.hi hb.size,h.b.trans (hb.mono h.b.size),Bi h.o hb⟩
theorem NM {w:World} {B g cap:Nat} {l:List Ht} {x:Ht} {n:Nat} (hn:l.length=n) (h:w.ownsRow B 47 2 (.slice (some ⟨g,0,none⟩) (n+1) cap) (n+1) (htc (l++[x]))):
  w.cell? ⟨g,n * 2,none⟩=some (.int .i64 x.r)/\w.cell? ⟨g,n * 2+1,none⟩=some (.int .i64 x.o)/\w.frozen? ⟨g,n * 2+1,none⟩=false/\
  (w.setCell ⟨g,n * 2+1,none⟩ (.int .i64 (x.o+1))).ownsRow B 47 2 (.slice (some ⟨g,0,none⟩) (n+1) cap) (n+1) (htc (l++[⟨x.r,x.o+1⟩]))/\Below B w (w.setCell ⟨g,n * 2+1,none⟩ (.int .i64 (x.o+1))):=by
 have hl:n<(l++[x]).length:=by simp;omega
 have hx:(l++[x])[n]'hl=x:=by subst hn;simp
 obtain⟨c0,c1⟩:=QJ (l++[x]) n hl;rw[hx]at c0 c1;have k0:=h.cells (g:=g) rfl _ _ c0;have k1:=h.cells (g:=g) rfl _ _ c1;rw[Go.WideShapes.add_plain,Nat.zero_add]at k0 k1;obtain⟨s1,s2⟩:=h.stored (n * 2+1) (.int .i64 (x.o+1));have hs:=WB (l++[x]) n hl ⟨x.r,x.o+1⟩ (by rw[hx]);rw[hs,show(l++[x]).set n ⟨x.r,x.o+1⟩=l++[⟨x.r,x.o+1⟩] by subst hn;simp]at s1;exact⟨k0,k1,h.frozenAt _,s1,(Below.refl B w).setCell (h.lt g rfl).1 _⟩
theorem PN (v1:Value) (xs:List Pl) (w:World) (h1:InP w v1 xs) (hl:xs.length<=100000):
  Calls Tryz.prog 147 #[v1] w fun e w'=>∃v',e= .returned v'/\w'.ownsRow w.heap.size 47 2 v' (Cx xs).length (htc (Cx xs))/\Below w.heap.size w w':=by
 obtain⟨i0,hi,hz0,hz1,hz2⟩:=A5 P7;obtain⟨a,cap,rfl,_,hr,_⟩:=h1;obtain⟨T,hT⟩:∃T,Cx xs=T:=⟨_,rfl⟩;have HT:Hid (O0 [] (xs.drop 0)=T):=hT;rw[hT];clear hT;obtain⟨_,hm,hx⟩:=hr;go_enter Tryz.func147,Tryz.ntmps147;go_wp2;go_loopw [3,9] (fun v i wr=>∃(k:Nat) (l:List Ht),k<=xs.length/\l.length<=k/\i= .int .i64 k/\Hid (O0 l (xs.drop k)=T/\∀x∈l,0<=x.o/\x.o<=k)/\Hid (wr.ownsRow w.heap.size 47 2 v l.length (htc l)/\Below w.heap.size w wr)) (fun _ i _=>xs.length-(intOf i).toNat)
 case atStart=>exact⟨0,[],Nat.zero_le _,by simp,rfl,⟨HT.out,fun _ h=>(by cases h)⟩,World.ownsRow_nil _ _ _ _,Below.refl _ _⟩
 case round=>
  clear HT;obtain⟨k,l,hk,hlk,rfl,hz,hown⟩:=hrel
  by_cases hlt:k<xs.length
  ·rcases hx with hx|⟨b,off,rfl,hb,hrow⟩
   ·simp[hx]at hlt
   obtain⟨g1,g2⟩:=hrow k hlt;clear hrow;rw[<-hown.out.2.cell (p:=⟨b,_,none⟩) hb]at g1 g2;have hz1':=hz.out.1;rw[List.drop_eq_getElem_cons hlt,SN]at hz1';have i1:(k:Int)<(xs.length:Int):=by omega
   generalize xs[k]=q at *;have HZ:Hid (O0 (K8 l q.r) (xs.drop (k+1))=T):=hz1';have HLO:Hid (∀x∈l,0<=x.o/\x.o<=k):=hz.out.2;have HO:Hid (wr.ownsRow w.heap.size 47 2 u3 l.length (htc l)):=hown.out.1;have HB:Hid (Below w.heap.size w wr):=hown.out.2;have hsz:=HB.out.size;clear hz hz1' hown;have HX:Hid (Az wr.heap.size q (wr.alloc (.cells #[.int .i64 q.r,.int .i64 q.a] 81))):=Az.box wr q;have HO1:Hid ((wr.alloc (.cells #[.int .i64 q.r,.int .i64 q.a] 81)).ownsRow w.heap.size 47 2 u3 l.length (htc l)):=HO.out.alloc _;have HB1:Hid (Below w.heap.size w (wr.alloc (.cells #[.int .i64 q.r,.int .i64 q.a] 81))):=HB.out.alloc hsz _;have hzs:(wr.alloc (.cells #[.int .i64 q.r,.int .i64 q.a] 81)).heap.size=wr.heap.size+1:=by simp
   obtain⟨c1,c2,_,_,_⟩:=HX.out;rcases List.eq_nil_or_concat l with hl0|⟨l',x,hl0⟩
   ·subst hl0
    have hv:∃a c,u3= .slice a 0 c:=by
     rcases HO.out.2 with⟨rfl,_⟩|⟨g,cap,cur,rfl,_⟩
     ·exact⟨none,0,rfl⟩
     ·exact⟨_,cap,rfl⟩
    obtain⟨va,vc,rfl⟩:=hv;rw[K7]at HZ;have HM:Hid (CE w wr.heap.size q (.slice va 0 vc) [] (wr.alloc (.cells #[.int .i64 q.r,.int .i64 q.a] 81))):=⟨c1,hsz,by simp,HB1.out,HO1.out⟩;clear HX hlk HO1 HB1 HO HB;go_wp2_with fail;go_quiet (fail);have HM:Hid _:=CE.step HM.out (below_drewN (Below.refl _ _) nq);clear c1 c2;generalize ((wr.alloc (.cells #[.int .i64 q.r,.int .i64 q.a] 81)).drewN nq)=W1 at *;have c1:=HM.out.c;have hs3:=HM.out.b.size
    go_wp2_with (at_builtin;refine wpList_append_own _ rfl _ _ 41 rfl w.heap.size 47 i0 (.agg #[.int .i64 0,.int .i64 0]) 2 16 Tryz.underlying41 hi hz0 hz1 hz2 rfl (by decide) _ _ _ rfl (HM.out.o.alloc _) ⟨W1.heap.size,0,none⟩ 1 1 (htc [⟨q.r,1⟩]) rfl rfl (EW W1 ⟨q.r,1⟩ 47) (FX _) (by simp[maxLen]) (by simp) (by simp;omega) ?_)
    intro v3 w3 ho3 hg3 _;have HB3:Hid (Below w.heap.size w w3):=(HM.out.b.alloc hs3 _).grown hg3 (by simp;omega) (fun g hg=>(HM.out.o.lt g hg).1);have HO3:Hid (w3.ownsRow w.heap.size 47 2 v3 ([⟨q.r,1⟩]:List Ht).length (htc ([⟨q.r,1⟩]:List Ht))):=Bc ho3 (by simp) (by simp[htc]);clear ho3 hg3 HM c1 hs3;go_wp2;go_roundw
    case rel=>exact⟨k+1,([⟨q.r,1⟩]:List Ht),by omega,by simp,by go_num,⟨HZ.out,fun x hx=>by rw[List.mem_singleton.1 hx];show(0:Int)<=1/\(1:Int)<=_;omega⟩,HO3.out,HB3.out⟩
    case measure=>simp[intOf];omega
   ·rw[List.concat_eq_append]at hl0
    subst hl0;obtain⟨n,hn⟩:∃n,l'.length=n:=⟨_,rfl⟩;have hln:(l'++[x]).length=n+1:=by simp[hn]
    obtain⟨xl,xh⟩:=HLO.out x (by simp);rw[hln]at HO HO1 hlk
    have hv:∃g c,u3= .slice (some ⟨g,0,none⟩) (n+1) c:=by
     rcases HO.out.2 with⟨_,h0⟩|⟨g,cap,cur,rfl,_⟩
     ·omega
     ·exact⟨g,cap,rfl⟩
    obtain⟨vg,vc,rfl⟩:=hv;have d1:decide ((0:Int)<(n:Int)+1)=true:=by simp
    obtain⟨k0,k1,kf,ks,kb⟩:=NM hn HO1.out;have hvl:=(HO1.out.lt vg rfl);have HM:Hid (CE w wr.heap.size q (.slice (some ⟨vg,0,none⟩) (n+1) vc) (l'++[x]) (wr.alloc (.cells #[.int .i64 q.r,.int .i64 q.a] 81))):=⟨c1,hsz,by simp,HB1.out,by rw[hln];exact HO1.out⟩;have HLN:Hid _:=hln;have HN:Hid _:=hn;clear HX HO HB ks kb kf hln hn
    by_cases hxr:x.r=q.r
    ·have j1:(x.r == q.r)=true:=by simpa using hxr
     have HXR:Hid (x.r=q.r):=hxr;rw[<-hxr,K6]at HZ;clear hxr;go_wp2_with fail;go_quiet (fail);have HM:Hid _:=CE.step HM.out (below_drewN (Below.refl _ _) nq);clear c1 c2 k0 k1 HO1 HB1 hzs;generalize ((wr.alloc (.cells #[.int .i64 q.r,.int .i64 q.a] 81)).drewN nq)=W1 at *;have c1:=HM.out.c;have hs3:=HM.out.b.size;have ho1:=HM.out.o;rw[HLN.out]at ho1;obtain⟨k0,k1,kf,ks,kb⟩:=NM HN.out ho1;have HKS:Hid _:=ks;have HKB:Hid _:=kb;have hw1:IntKind.i64.wrap (x.o+1)=x.o+1:=By _ (by omega) (by omega);clear ks kb ho1;go_wp2;go_roundw
     case rel=>exact⟨k+1,l'++[⟨x.r,x.o+1⟩],by omega,by simp[HN.out];omega,by go_num,⟨HZ.out,fun y hy=>by
      rcases List.mem_append.1 hy with hy|hy
      ·have:=HLO.out y (by simp[hy]);omega
      ·rw[List.mem_singleton.1 hy];show 0<=x.o+1/\x.o+1<=_;omega⟩,by rw[show(l'++([⟨x.r,x.o+1⟩]:List Ht)).length=n+1 by simp[HN.out]];exact HKS.out,HM.out.b.trans HKB.out⟩
     case measure=>simp[intOf];omega
    ·have j1:(x.r == q.r)=false:=by simpa using hxr
     rw[MH hxr]at HZ;clear hxr;go_wp2_with fail;go_quiet (fail);have HM:Hid _:=CE.step HM.out (below_drewN (Below.refl _ _) nq);clear c1 c2 k0 k1 HO1 HB1 hzs;generalize ((wr.alloc (.cells #[.int .i64 q.r,.int .i64 q.a] 81)).drewN nq)=W1 at *;have c1:=HM.out.c;have hs3:=HM.out.b.size
     have HO2:Hid (W1.ownsRow w.heap.size 47 2 (.slice (some ⟨vg,0,none⟩) (n+1) vc) (n+1) (htc (l'++[x]))):=by
      have:=HM.out.o;rw[HLN.out]at this;exact this
     go_wp2_with (at_builtin;refine wpList_append_own _ rfl _ _ 41 rfl w.heap.size 47 i0 (.agg #[.int .i64 0,.int .i64 0]) 2 16 Tryz.underlying41 hi hz0 hz1 hz2 rfl (by decide) _ _ _ rfl (HO2.out.alloc _) ⟨W1.heap.size,0,none⟩ 1 1 (htc [⟨q.r,1⟩]) rfl rfl (EW W1 ⟨q.r,1⟩ 47) (FX _) (by simp[maxLen];omega) (by omega) (by simp;omega) ?_)
     intro v3 w3 ho3 hg3 _;have HB3:Hid (Below w.heap.size w w3):=(HM.out.b.alloc hs3 _).grown hg3 (by simp;omega) (fun g hg=>(HO2.out.lt g hg).1);have HO3:Hid (w3.ownsRow w.heap.size 47 2 v3 (l'++[x]++([⟨q.r,1⟩]:List Ht)).length (htc (l'++[x]++([⟨q.r,1⟩]:List Ht)))):=Bc ho3 (by simp[HN.out]) (by rw[De (l'++[x])]);clear ho3 hg3 HM c1 hs3 HO2;go_wp2;go_roundw
     case rel=>exact⟨k+1,l'++[x]++[⟨q.r,1⟩],by omega,by simp[HN.out];omega,by go_num,⟨HZ.out,fun y hy=>by
      rcases List.mem_append.1 hy with hy|hy
      ·have:=HLO.out y hy;omega
      ·rw[List.mem_singleton.1 hy];show(0:Int)<=1/\(1:Int)<=_;omega⟩,HO3.out,HB3.out⟩
     case measure=>simp[intOf];omega
  ·have e:l=T:=by
    have:=hz.out.1;rw[List.drop_eq_nil_of_le (by omega)]at this;exact this
   subst e;go_wp2;go_ret;exact⟨_,rfl,hown.out⟩
structure Fdr (bf:Nat) (nm:ByteArray) (pls:ByteArray->List Pl) (beg:ByteArray->List ByteArray) (w:World):Prop where
 pl:∀wx,Below w.heap.size w wx->∀wd:ByteArray,wd.size<=100->Calls Tryz.prog 145 #[.pointer (some ⟨bf,0,none⟩),.string nm,.string wd] wx fun e w'=>∃v,e= .returned (.tuple #[v,.nilIface])/\InP w' v (pls wd)/\Below wx.heap.size wx w'
 bg:∀wx,Below w.heap.size w wx->∀s:ByteArray,s.size<=100->Calls Tryz.prog 148 #[.pointer (some ⟨bf,0,none⟩),.string nm,.string s] wx fun e w'=>∃a c,e= .returned (.tuple #[.slice a (beg s).length c,.nilIface])/\It w' a (beg s).length (beg s)/\Below wx.heap.size wx w'
 ok:FOk pls beg
 bw:∀s,∀x∈beg s,x.size<=100
theorem Fdr.below {bf:Nat} {nm:ByteArray} {pls:ByteArray->List Pl} {beg:ByteArray->List ByteArray} {w w':World} (h:Fdr bf nm pls beg w) (hb:Below w.heap.size w w'):Fdr bf nm pls beg w':=
 ⟨fun wx hx=>h.pl wx (hb.trans (hx.mono hb.size)),fun wx hx=>h.bg wx (hb.trans (hx.mono hb.size)),h.ok,h.bw⟩
structure SV (B bf:Nat) (nm:ByteArray) (w:World):Prop where
 lt:B<w.heap.size
 f:w.cell? ⟨B,0,none⟩=some (.pointer (some ⟨bf,0,none⟩))
 n:w.cell? ⟨B,1,none⟩=some (.string nm)
theorem SV.below {B bf:Nat} {nm:ByteArray} {w w':World} (h:SV B bf nm w) (hb:Below w.heap.size w w'):SV B bf nm w':=
 ⟨Nat.lt_of_lt_of_le h.lt hb.size,by rw[hb.cell (p:=⟨B,_,none⟩) h.lt];exact h.f,by rw[hb.cell (p:=⟨B,_,none⟩) h.lt];exact h.n⟩
theorem SV.new (bf:Nat) (nm:ByteArray) (w:World):SV w.heap.size bf nm (w.alloc (.cells #[.pointer (some ⟨bf,0,none⟩),.string nm] 85)):=by
 exact⟨by simp,by simp,by simp⟩
theorem DZ (w:World) (o:Obj):Below w.heap.size w (w.alloc o):=(Below.refl _ w).alloc (Nat.le_refl _) _
section
variable {bf:Nat} {nm:ByteArray} {pls:ByteArray->List Pl} {beg:ByteArray->List ByteArray} {w:World}
theorem QK {B:Nat} {v:Value} {l:List Ht} {M:Nat} (h:w.ownsRow B 47 2 v l.length (htc l)) (hk:Hk M l) (hM:M<=100000000):InH w v l:=InH.of_own h (by have:=hk.len;omega)
theorem YD {M:Nat} {l:List Ht} (hk:Hk M l) (hM:M<=1000000000000):∀z∈l,0<=z.o/\z.o<=1000000000000:=fun z hz=>by
 have:=hk.pos z hz;have:=hk.le z hz;omega
theorem Oq {v1:Value} {xs:List Pl} (h1:InP w v1 xs) (hr:xs.Pairwise LtP) (hl:xs.length<=100000):
  Calls Tryz.prog 147 #[v1] w fun e w'=>∃v',e= .returned v'/\InH w' v' (Cx xs)/\Below w.heap.size w w':=by
 refine(PN v1 xs w h1 hl).mono ?_;rintro e w' ⟨v,rfl,ho,hb⟩;exact⟨v,rfl,QK ho (Gm hr).hk (by omega),hb⟩
theorem FQ {M N:Nat} (k:Int) {va vb:Value} {xs ys:List Ht} (h1:InH w va xs) (h2:InH w vb ys) (hx:Hk M xs) (hy:Hk N ys) (hM:M+N<=100000000):
  Calls Tryz.prog 66 #[.int .i64 k,va,vb] w fun e w'=>∃v',e= .returned v'/\InH w' v' (Ak k xs ys)/\Below w.heap.size w w':=by
 have l1:=hx.len;have l2:=hy.len;refine(LX k va vb xs ys w h1 h2 (by omega) (by omega) (YD hx (by omega)) (YD hy (by omega))).mono ?_;rintro e w' ⟨v,rfl,ho,hb⟩;exact⟨v,rfl,QK ho (hx.tog k hy) hM,hb⟩
theorem Tp (hF:Fdr bf nm pls beg w) (a:Option Addr) (c:Nat) (ws:List ByteArray) (hr:It w a ws.length ws) (hok:∀x∈ws,x.size<=100):
  Calls Tryz.prog 99 #[.agg #[.pointer (some ⟨bf,0,none⟩),.string nm],.slice a ws.length c] w fun e w'=>∃v,e= .returned (.tuple #[v,.nilIface])/\InH w' v (Cx (Ea pls ws))/\Below w.heap.size w w':=by
 obtain⟨T,hT⟩:∃T,Ea pls ws=T:=⟨_,rfl⟩;have HT:Hid (Ea pls ws=T):=hT;have HTL:Hid (T.Pairwise LtP/\T.length<=500):=by rw[<-hT];exact⟨GV pls hF.ok.ris ws,J7 pls 500 hF.ok.len ws⟩
 rw[hT];clear hT;have HF:Hid (Fdr bf nm pls beg w):=hF;have HOK:Hid (∀x∈ws,x.size<=100):=hok;clear hF hok;have HSV0:Hid (SV w.heap.size bf nm (w.alloc (.cells #[.pointer (some ⟨bf,0,none⟩),.string nm] 85))):=SV.new bf nm w;have HB0:Hid (Below w.heap.size w (w.alloc (.cells #[.pointer (some ⟨bf,0,none⟩),.string nm] 85))):=DZ w _;obtain⟨hrl,hm,hx⟩:=hr;clear hrl;go_enter Tryz.func99,Tryz.ntmps99;go_wp2;go_loopw [6,13] (fun v i wr=>∃(k:Nat) (s:List Pl),k<=ws.length/\i= .int .i64 k/\Hid (InP wr v s/\(∀p∈s,OkP p)/\s.Pairwise LtP/\s.length<=500)/\Hid ((k=0->Ea pls ws=T/\s=[])/\(0<k->CP pls s (ws.drop k)=T))/\Hid (SV w.heap.size bf nm wr/\Below w.heap.size w wr)) (fun _ i _=>ws.length-(intOf i).toNat)
 case atStart=>exact⟨0,[],Nat.zero_le _,rfl,⟨InP.nil _,fun _ h=>(by cases h),List.Pairwise.nil,Nat.zero_le _⟩,⟨fun _=>⟨HT.out,rfl⟩,fun h=>absurd h (by omega)⟩,HSV0.out,HB0.out⟩
 case round=>
  clear HSV0 HB0;obtain⟨k,s,hk,rfl,hs,hz,hw⟩:=hrel;have HS:Hid _:=hs.out;have HZ:Hid _:=hz.out;have HSV:Hid (SV w.heap.size bf nm wr):=hw.out.1;have HB:Hid (Below w.heap.size w wr):=hw.out.2;clear hs hz hw
  by_cases hlt:k<ws.length
  ·rcases hx with hx|⟨b,off,rfl,hb,hrow⟩
   ·simp[hx]at hlt
   have g1:=hrow k hlt;clear hrow;rw[<-HB.out.cell (p:=⟨b,_,none⟩) hb]at g1;have i1:(k:Int)<(ws.length:Int):=by omega
   have hq:=HOK.out ws[k] (List.getElem_mem hlt);obtain⟨q,hqe⟩:∃q,ws[k]=q:=⟨_,rfl⟩;have HD:Hid (ws.drop k=q::ws.drop (k+1)):=by show _=_;rw[List.drop_eq_getElem_cons hlt,hqe]
   rw[hqe]at g1 hq;clear hqe;obtain⟨_,s1,s2⟩:=HSV.out;have HPL:Hid _:=HF.out.pl wr HB.out q hq;go_wp2_with fail;refine(show Calls _ _ _ _ _ from HPL.out).mono ?_;rintro _ w1 ⟨v1,rfl,hin1,hb1⟩;have HI1:Hid (InP w1 v1 (pls q)):=hin1;have HB1:Hid (Below w.heap.size w w1):=HB.out.trans (hb1.mono HB.out.size);have HSV1:Hid (SV w.heap.size bf nm w1):=HSV.out.below hb1;have HS1:Hid (InP w1 u6 s/\(∀p∈s,OkP p)/\s.Pairwise LtP/\s.length<=500):=⟨HS.out.1.below hb1,HS.out.2⟩;clear hin1 hb1 HPL s1 s2 g1 HSV HB HS;have hkk:=hk
   by_cases k0:k=0
   ·subst k0
    have HZ2:Hid (CP pls (pls q) (ws.drop 1)=T):=by
     show _=_;rw[<-(HZ.out.1 rfl).1];have e:ws=q::ws.drop 1:=HD.out
     conv=>rhs;rw[e]
     rfl
    have HP2:Hid ((∀p∈pls q,OkP p)/\(pls q).Pairwise LtP/\(pls q).length<=500):=⟨HF.out.ok.ok q,HF.out.ok.ris q,HF.out.ok.len q⟩;have HI2:Hid (InP w1 v1 (pls q)):=HI1.out;have HB2:Hid (Below w.heap.size w w1):=HB1.out;have HSV2:Hid (SV w.heap.size bf nm w1):=HSV1.out;obtain⟨w2,hw2⟩:∃w2,w1=w2:=⟨_,rfl⟩;clear HZ HS1 HI1 HB1 HSV1 HD;subst hw2;obtain⟨a2,c2,rfl,hc2,hr2,hn2⟩:=HI2.out;obtain⟨n2,hn⟩:∃n,(pls q).length=n:=⟨_,rfl⟩;have HN2:Hid ((pls q).length=n2):=hn;rw[hn]at hc2 hr2 ⊢;have HI3:Hid (InP w1 (.slice a2 n2 c2) ((pls q))):=⟨a2,c2,by rw[hn],by rw[hn];exact hc2,by rw[hn];exact hr2,hn2⟩;clear hc2 hr2 hn2 hn
    by_cases h0:n2=0
    ·have e:T=[]:=by
      have e1:(pls q)=[]:=List.length_eq_zero_iff.1 (HN2.out.trans h0);have:=HZ2.out;rw[e1,Lg]at this;exact this.symm
     have HE:Hid (Cx T=[]):=by show _=_;rw[e];rfl
     subst h0;clear e;go_wp2;go_ret2;refine⟨_,rfl,?_,HB2.out⟩;rw[HE.out];exact InH.nil _
    ·have j0:((n2:Int) == 0)=false:=by simp;omega
     clear h0;go_wp2;go_roundw
     case rel=>exact⟨1,(pls q),by omega,by go_num,⟨HI3.out,HP2.out⟩,⟨fun h=>absurd h (by omega),fun _=>HZ2.out⟩,⟨HSV2.out,HB2.out⟩⟩
     case measure=>simp[intOf];omega
   ·have hk0:decide (0<k)=true:=by simp;omega
    have HZ2:Hid (CP pls (AC Cz s (pls q)) (ws.drop (k+1))=T):=by
     show _=_;have:=HZ.out.2 (by omega);rw[HD.out]at this;exact this
    have HFO:Hid _:=PC u6 v1 s (pls q) w1 HS1.out.1 HI1.out HS1.out.2.1 (by have:=HF.out.ok.len q;omega);clear HZ k0 hk;go_wp2_with fail;refine(show Calls _ _ _ _ _ from HFO.out).mono ?_;rintro _ w2 ⟨v2,rfl,ho2,hb2⟩;obtain⟨f1,f2⟩:=IJ HS1.out.2.2.1 (HF.out.ok.ris q);have hkl:=Jq Cz (pls q) s;have HP2:Hid ((∀p∈AC Cz s (pls q),OkP p)/\(AC Cz s (pls q)).Pairwise LtP/\(AC Cz s (pls q)).length<=500):=⟨fun p hp=>HF.out.ok.ok q p ((If Cz (pls q) s).subset hp),f1,Nat.le_trans hkl (HF.out.ok.len q)⟩;have HI2:Hid (InP w2 v2 (AC Cz s (pls q))):=InP.of_own ho2 (by have:=HP2.out.2.2;omega);have HB2:Hid (Below w.heap.size w w2):=HB1.out.trans (hb2.mono HB1.out.size);have HSV2:Hid (SV w.heap.size bf nm w2):=HSV1.out.below hb2;clear ho2 hb2 f1 f2 hkl HFO HS1 HI1 HB1 HSV1 HD;obtain⟨a2,c2,rfl,hc2,hr2,hn2⟩:=HI2.out;obtain⟨n2,hn⟩:∃n,(AC Cz s (pls q)).length=n:=⟨_,rfl⟩;have HN2:Hid ((AC Cz s (pls q)).length=n2):=hn;rw[hn]at hc2 hr2 ⊢;have HI3:Hid (InP w2 (.slice a2 n2 c2) ((AC Cz s (pls q)))):=⟨a2,c2,by rw[hn],by rw[hn];exact hc2,by rw[hn];exact hr2,hn2⟩;clear hc2 hr2 hn2 hn
    by_cases h0:n2=0
    ·have e:T=[]:=by
      have e1:(AC Cz s (pls q))=[]:=List.length_eq_zero_iff.1 (HN2.out.trans h0);have:=HZ2.out;rw[e1,Lg]at this;exact this.symm
     have HE:Hid (Cx T=[]):=by show _=_;rw[e];rfl
     subst h0;clear e;go_wp2;go_ret2;refine⟨_,rfl,?_,HB2.out⟩;rw[HE.out];exact InH.nil _
    ·have j0:((n2:Int) == 0)=false:=by simp;omega
     clear h0;go_wp2;go_roundw
     case rel=>exact⟨k+1,(AC Cz s (pls q)),by omega,by go_num,⟨HI3.out,HP2.out⟩,⟨fun h=>absurd h (by omega),fun _=>HZ2.out⟩,⟨HSV2.out,HB2.out⟩⟩
     case measure=>simp[intOf];omega
  ·have e:s=T:=by
    by_cases k0:k=0
    ·subst k0
     obtain⟨z1,z2⟩:=HZ.out.1 rfl;have e0:ws=[]:=List.length_eq_zero_iff.1 (by omega);rw[z2,<-z1,e0];rfl
    ·have:=HZ.out.2 (by omega)
     rw[List.drop_eq_nil_of_le (by omega)]at this;exact this
   subst e;have HC:Hid _:=Oq HS.out.1 HTL.out.1 (by have:=HTL.out.2;omega);clear HZ HS;go_wp2_with fail;refine(show Calls _ _ _ _ _ from HC.out).mono ?_;rintro _ w2 ⟨v2,rfl,hi2,hb2⟩;have HI2:Hid (InH w2 v2 (Cx s)):=hi2;have HB2:Hid (Below w.heap.size w w2):=HB.out.trans (hb2.mono HB.out.size);clear hi2 hb2 HC;go_wp2;go_ret2;exact⟨_,rfl,HI2.out,HB2.out⟩
end
end
section
open Go.RowKit Go.Maps
section
variable {bf bt bp bd bm N:Nat} {w:World} {D:List Nd}
theorem Zk (hD:Nts D) (h:PrS bf bt bp bd bm N 21000 (InD D) w) (hg:Gl w) (nm:ByteArray) (hnm:nm.size<=100):
  ∃pls beg,Fdr bf nm pls beg w/\(∀wd,LO D nm wd (pls wd))/\∀s,Rc D nm s (beg s):=by
 obtain⟨N1,up,V,T,L,k0,k1,k2,k3⟩:=h.piecesD hD.ok;obtain⟨m,hm⟩:=hg.m;have hl:=k3.len hD.ok;have hl2:=hD.len;have hP:∀wd,LO D nm wd (C5 nm wd L):=fun wd=>XE hD k3 nm wd;have hB:∀s,Rc D nm s (FN (Cn nm s L)):=fun s=>Yk hD k3 nm s;refine⟨fun wd=>C5 nm wd L,fun s=>FN (Cn nm s L),⟨fun wx hx wd hwd=> ?_,fun wx hx s hs=> ?_,⟨fun wd=>(hP wd).right,fun wd=>by have:=(hP wd).len;omega,fun s=>by have:=(hB s).len;omega⟩,fun s x hx=> ?_⟩,hP,hB⟩
 ·refine(Pj (k1.below hx) (AP hx hm) (k3.ok hD.ok) k2 (by omega) nm wd hnm hwd).mono ?_
  rintro e w' ⟨v,rfl,hr,hb⟩;exact⟨v,rfl,InP.of_own hr (by have:=(hP wd).len;omega),hb⟩
 ·refine(Td (k1.below hx) (AP hx hm) (k3.ok hD.ok) k2 (by omega) nm s hnm hs).mono ?_
  rintro e w' ⟨v,rfl,hr,hb⟩;obtain⟨a,c,rfl,h1,_⟩:=OU hr (by have:=(hB s).len;omega);exact⟨a,c,rfl,h1,hb⟩
 ·obtain⟨d,hd,_,rfl,_⟩:=((hB s).mem x).1 hx
  have:=(hD.ok.ok d hd).w.le;omega
end
end
section
open Go.RowKit
section
variable {bf:Nat} {nm:ByteArray} {pls:ByteArray->List Pl} {beg:ByteArray->List ByteArray} {w:World}
theorem V4 (hF:Fdr bf nm pls beg w) (s:ByteArray) (hs:s.size<=100):
  Calls Tryz.prog 100 #[.agg #[.pointer (some ⟨bf,0,none⟩),.string nm],.string s] w fun e w'=>∃v,e= .returned (.tuple #[v,.nilIface])/\InH w' v (FO pls [] (beg s))/\Below w.heap.size w w':=by
 obtain⟨T,hT⟩:∃T,FO pls [] (beg s)=T:=⟨_,rfl⟩;have HT:Hid (FO pls [] (beg s)=T):=hT;rw[hT];clear hT;have HF:Hid (Fdr bf nm pls beg w):=hF;clear hF;have HSV0:Hid (SV w.heap.size bf nm (w.alloc (.cells #[.pointer (some ⟨bf,0,none⟩),.string nm] 85))):=SV.new bf nm w;have HB0:Hid (Below w.heap.size w (w.alloc (.cells #[.pointer (some ⟨bf,0,none⟩),.string nm] 85))):=DZ w _;have HBG:Hid _:=HF.out.bg _ HB0.out s hs;obtain⟨_,s1,s2⟩:=HSV0.out;go_enter Tryz.func100,Tryz.ntmps100;go_wp2_with fail;refine(show Calls _ _ _ _ _ from HBG.out).mono ?_;rintro _ w1 ⟨a,c,rfl,hr,hb1⟩;have HB1:Hid (Below w.heap.size w w1):=HB0.out.trans (hb1.mono HB0.out.size);have HSV1:Hid (SV w.heap.size bf nm w1):=HSV0.out.below hb1;have HWS:Hid (∀x∈beg s,x.size<=100):=HF.out.bw s;have hbl:=HF.out.ok.bl s;obtain⟨ws,hws⟩:∃ws,beg s=ws:=⟨_,rfl⟩;rw[hws]at hr HT HWS hbl ⊢;obtain⟨_,_,hx⟩:=hr;clear hb1 hws HB0 HSV0 HBG s1 s2;go_wp2;go_loopw [8,27] (fun v i wr=>∃(k:Nat) (l:List Ht),k<=ws.length/\i= .int .i64 k/\Hid (InH wr v l/\Hk (500 * k) l)/\Hid (FO pls l (ws.drop k)=T)/\Hid (SV w.heap.size bf nm wr/\Below w1.heap.size w1 wr)) (fun _ i _=>ws.length-(intOf i).toNat)
 case atStart=>exact⟨0,[],Nat.zero_le _,rfl,⟨InH.nil _,Hk.nil _⟩,HT.out,⟨HSV1.out,Below.refl _ _⟩⟩
 case round=>
  clear HSV1 HT;obtain⟨k,l,hk,rfl,hl,hz,hw⟩:=hrel;have HL:Hid _:=hl.out;have HZ:Hid _:=hz.out;have HSV:Hid (SV w.heap.size bf nm wr):=hw.out.1;have HB:Hid (Below w1.heap.size w1 wr):=hw.out.2;have HBW:Hid (Below w.heap.size w wr):=HB1.out.trans (hw.out.2.mono HB1.out.size);clear hl hz hw
  by_cases hlt:k<ws.length
  ·rcases hx with hx|⟨b,off,rfl,hb,hrow⟩
   ·simp[hx]at hlt
   have g1:=hrow k hlt;clear hrow;rw[<-HB.out.cell (p:=⟨b,_,none⟩) hb]at g1;have i1:(k:Int)<(ws.length:Int):=by omega
   have hq:=HWS.out ws[k] (List.getElem_mem hlt);obtain⟨q,hqe⟩:∃q,ws[k]=q:=⟨_,rfl⟩
   have HZ1:Hid (FO pls (Ak 5 l (Cx (pls q))) (ws.drop (k+1))=T):=by
    show _=_;have:=HZ.out;rw[List.drop_eq_getElem_cons hlt,hqe,GB]at this;exact this
   rw[hqe]at g1 hq;clear hqe HZ;obtain⟨_,s1,s2⟩:=HSV.out;have HPL:Hid _:=HF.out.pl wr HBW.out q hq;go_wp2_with fail;refine(show Calls _ _ _ _ _ from HPL.out).mono ?_;rintro _ w2 ⟨v2,rfl,hin2,hb2⟩;have HC:Hid _:=Oq hin2 (HF.out.ok.ris q) (by have:=HF.out.ok.len q;omega);have HB2:Hid (Below w1.heap.size w1 w2):=HB.out.trans (hb2.mono HB.out.size);have HSV2:Hid (SV w.heap.size bf nm w2):=HSV.out.below hb2;have HL2:Hid (InH w2 u8 l/\Hk (500 * k) l):=⟨HL.out.1.below hb2,HL.out.2⟩;clear hin2 hb2 HPL s1 s2 g1 HSV HB HL HBW;go_wp2_with fail;refine(show Calls _ _ _ _ _ from HC.out).mono ?_;rintro _ w3 ⟨v3,rfl,hin3,hb3⟩;have HKC:Hid (Hk 500 (Cx (pls q))):=(Gm (HF.out.ok.ris q)).hk.mono (HF.out.ok.len q);have HTG:Hid _:=FQ 5 (HL2.out.1.below hb3) hin3 HL2.out.2 HKC.out (by omega);have HB3:Hid (Below w1.heap.size w1 w3):=HB2.out.trans (hb3.mono HB2.out.size);have HSV3:Hid (SV w.heap.size bf nm w3):=HSV2.out.below hb3;have HK3:Hid (Hk (500 * k) l):=HL2.out.2;clear hin3 hb3 HC HSV2 HB2 HL2;go_wp2_with fail;refine(show Calls _ _ _ _ _ from HTG.out).mono ?_;rintro _ w4 ⟨v4,rfl,hin4,hb4⟩;have HL4:Hid (InH w4 v4 (Ak 5 l (Cx (pls q)))/\Hk (500 * (k+1)) (Ak 5 l (Cx (pls q)))):=⟨hin4,(HK3.out.tog 5 HKC.out).mono (by omega)⟩;have HB4:Hid (Below w1.heap.size w1 w4):=HB3.out.trans (hb4.mono HB3.out.size);have HSV4:Hid (SV w.heap.size bf nm w4):=HSV3.out.below hb4;clear hin4 hb4 HTG HSV3 HB3 HK3 HKC;go_wp2;go_roundw
   case rel=>exact⟨k+1,_,by omega,by go_num,HL4,HZ1,⟨HSV4.out,HB4.out⟩⟩
   case measure=>simp[intOf];omega
  ·have e:l=T:=by
    have:=HZ.out;rw[List.drop_eq_nil_of_le (by omega)]at this;exact this
   subst e;go_wp2;go_ret2;exact⟨_,rfl,HL.out.1,HBW.out⟩
theorem U2 (hF:Fdr bf nm pls beg w) (s t:ByteArray) (hs:s.size<=100) (ht:t.size<=100):
  Calls Tryz.prog 101 #[.agg #[.pointer (some ⟨bf,0,none⟩),.string nm],.string s,.string t,.int .i64 3] w fun e w'=>∃v,e= .returned (.tuple #[v,.nilIface])/\InH w' v (Ed pls s t)/\Below w.heap.size w w':=by
 obtain⟨i0,hi,hz0,hz1,hz2⟩:=A5 P7;obtain⟨R,hR⟩:∃R,Ag 3 [] (pls s) (pls t)=R:=⟨_,rfl⟩;have e0:Ed pls s t=R.map (fun r=>⟨r,1⟩):=by rw[<-hR];rfl
 rw[e0];have HR:Hid (Ag 3 [] (pls s) (pls t)=R):=hR;clear e0 hR;have HF:Hid (Fdr bf nm pls beg w):=hF;clear hF;have HSV0:Hid (SV w.heap.size bf nm (w.alloc (.cells #[.pointer (some ⟨bf,0,none⟩),.string nm] 85))):=SV.new bf nm w;have HB0:Hid (Below w.heap.size w (w.alloc (.cells #[.pointer (some ⟨bf,0,none⟩),.string nm] 85))):=DZ w _;have HP1:Hid _:=HF.out.pl _ HB0.out s hs;obtain⟨_,s1,s2⟩:=HSV0.out;go_enter Tryz.func101,Tryz.ntmps101;go_wp2_with fail;refine(show Calls _ _ _ _ _ from HP1.out).mono ?_;rintro _ w1 ⟨v1,rfl,hin1,hb1⟩;have HB1:Hid (Below w.heap.size w w1):=HB0.out.trans (hb1.mono HB0.out.size);have HSV1:Hid (SV w.heap.size bf nm w1):=HSV0.out.below hb1;have HI1:Hid (InP w1 v1 (pls s)):=hin1;have HP2:Hid _:=HF.out.pl _ HB1.out t ht;clear hin1 hb1 s1 s2 HB0 HSV0 HP1;obtain⟨_,s1,s2⟩:=HSV1.out;go_wp2_with fail;refine(show Calls _ _ _ _ _ from HP2.out).mono ?_;rintro _ w2 ⟨v2,rfl,hin2,hb2⟩;have HB2:Hid (Below w.heap.size w w2):=HB1.out.trans (hb2.mono HB1.out.size);have HN:Hid _:=U3 v1 v2 3 (pls s) (pls t) w2 (HI1.out.below hb2) hin2 (by have:=HF.out.ok.len s;omega) (by have:=HF.out.ok.len t;omega) (HF.out.ok.ok s) (HF.out.ok.ok t);clear hin2 hb2 s1 s2 HB1 HSV1 HI1 HP2;go_wp2_with fail;refine(show Calls _ _ _ _ _ from HN.out).mono ?_;rintro _ w3 ⟨v3,rfl,ho3,hb3⟩;have hnl:=Q4 3 _ [] (pls s) (pls t) (Nat.le_refl _);have hn1:=HF.out.ok.len s;have hn2:=HF.out.ok.len t;rw[HR.out]at ho3 hnl;simp only[List.length_nil]at hnl;have HB3:Hid (Below w.heap.size w w3):=HB2.out.trans (hb3.mono HB2.out.size);clear hb3 HN HB2 HR;have hRl:R.length<=1000:=by omega
 have hv:∃a c,v3= .slice a R.length c/\(R=[]\/∃g,a=some ⟨g,0,none⟩/\g<w3.heap.size/\∀i (h:i<R.length),w3.cell? ⟨g,i,none⟩=some (.int .i64 R[i])):=by
  rcases ho3.2 with⟨rfl,h0⟩|⟨g,cap,cur,rfl,_,hg,_⟩
  ·have:R=[]:=List.length_eq_zero_iff.1 h0
   subst this;exact⟨none,0,rfl,.inl rfl⟩
  ·refine⟨_,cap,rfl,.inr ⟨g,rfl,(Array.getElem?_eq_some_iff.1 hg).1,fun i hi=> ?_⟩⟩
   have k0:=ho3.cells (g:=g) rfl i (.int .i64 R[i]) (by simp[icc,hi]);rw[Go.WideShapes.add_plain,Nat.zero_add]at k0;exact k0
 obtain⟨a,c,rfl,hx⟩:=hv;clear ho3 hnl hn1 hn2;have hsz:=HB3.out.size;go_wp2;go_loopw [13,45] (fun v i wr=>∃(k:Nat) (l:List Ht),k<=R.length/\i= .int .i64 k/\l.length=k/\Hid (l++(R.drop k).map (fun r=>(⟨r,1⟩:Ht))=R.map (fun r=>⟨r,1⟩))/\Hid (wr.ownsRow w3.heap.size 47 2 v l.length (htc l)/\Below w3.heap.size w3 wr)) (fun _ i _=>R.length-(intOf i).toNat)
 case atStart=>exact⟨0,[],Nat.zero_le _,rfl,rfl,rfl,World.ownsRow_nil _ _ _ _,Below.refl _ _⟩
 case round=>
  obtain⟨k,l,hk,rfl,hlk,hz,hown⟩:=hrel
  by_cases hlt:k<R.length
  ·rcases hx with hx|⟨g,rfl,hb,hrow⟩
   ·simp[hx]at hlt
   have g1:=hrow k hlt;clear hrow;rw[<-hown.out.2.cell (p:=⟨g,_,none⟩) hb]at g1;have i1:(k:Int)<(R.length:Int):=by omega
   obtain⟨q,hqe⟩:∃q,R[k]=q:=⟨_,rfl⟩
   have HZ1:Hid ((l++[⟨q,1⟩])++(R.drop (k+1)).map (fun r=>(⟨r,1⟩:Ht))=R.map (fun r=>⟨r,1⟩)):=by
    show _=_;have:=hz.out;rw[List.drop_eq_getElem_cons hlt,hqe,List.map_cons]at this;rw[List.append_assoc];exact this
   rw[hqe]at g1;have HO:Hid (wr.ownsRow w3.heap.size 47 2 u13 l.length (htc l)):=hown.out.1;have HB:Hid (Below w3.heap.size w3 wr):=hown.out.2;have hs4:=HB.out.size;clear hqe hz hown
   go_wp2_with (at_builtin;refine wpList_append_own _ rfl _ _ 41 rfl w3.heap.size 47 i0 (.agg #[.int .i64 0,.int .i64 0]) 2 16 Tryz.underlying41 hi hz0 hz1 hz2 rfl (by decide) _ _ _ rfl (HO.out.alloc _) ⟨wr.heap.size,0,none⟩ 1 1 (htc [⟨q,1⟩]) rfl rfl (EW wr ⟨q,1⟩ 47) (FX _) (by simp[maxLen];omega) (by omega) (by simp;omega) ?_)
   intro v4 w4 ho4 hg4 _;have HB4:Hid (Below w3.heap.size w3 w4):=(HB.out.alloc hs4 _).grown hg4 (by simp;omega) (fun g hg=>(HO.out.lt g hg).1);have HO4:Hid (w4.ownsRow w3.heap.size 47 2 v4 (l++[(⟨q,1⟩:Ht)]).length (htc (l++[(⟨q,1⟩:Ht)]))):=Bc ho4 (by simp;omega) (by rw[De]);clear ho4 hg4 HO HB;go_wp2;go_roundw
   case rel=>exact⟨k+1,l++[⟨q,1⟩],by omega,by go_num,by simp;omega,HZ1,HO4.out,HB4.out⟩
   case measure=>simp[intOf];omega
  ·have e:l=R.map (fun r=>(⟨r,1⟩:Ht)):=by
    have:=hz.out;rw[List.drop_eq_nil_of_le (by omega)]at this;simpa using this
   have HE:Hid (l=R.map (fun r=>(⟨r,1⟩:Ht))):=e;have HO:Hid (wr.ownsRow w3.heap.size 47 2 u13 l.length (htc l)):=hown.out.1;have HB:Hid (Below w.heap.size w wr):=HB3.out.trans (hown.out.2.mono hsz);have HLL:Hid (l.length<=1000):=by show _<=_;omega
   clear hown hz e hlk;go_wp2;go_ret2;exact⟨u13,rfl,by rw[<-HE.out];exact InH.of_own (xs:=l) HO.out (by have:=HLL.out;omega),HB.out⟩
end
structure KI (B:Nat) (k:Int) (ws:List ByteArray) (pa pb:Option Addr) (x:Option Addr) (n c:Nat) (w:World):Prop where
 lt:B<w.heap.size
 kd:w.cell? ⟨B,0,none⟩=some (.int .i64 k)
 wd:w.cell? ⟨B,1,none⟩=some (.slice x n c)
 far:w.cell? ⟨B,2,none⟩=some (.int .i64 (LD k))
 sa:w.cell? ⟨B,3,none⟩=some (.pointer pa)
 sb:w.cell? ⟨B,4,none⟩=some (.pointer pb)
theorem KI.below {B:Nat} {k:Int} {ws:List ByteArray} {pa pb x:Option Addr} {n c:Nat} {w w':World} (h:KI B k ws pa pb x n c w) (hb:Below w.heap.size w w'):KI B k ws pa pb x n c w':=
 ⟨Nat.lt_of_lt_of_le h.lt hb.size,by rw[hb.cell (p:=⟨B,_,none⟩) h.lt];exact h.kd,by rw[hb.cell (p:=⟨B,_,none⟩) h.lt];exact h.wd,by rw[hb.cell (p:=⟨B,_,none⟩) h.lt];exact h.far,by rw[hb.cell (p:=⟨B,_,none⟩) h.lt];exact h.sa,by rw[hb.cell (p:=⟨B,_,none⟩) h.lt];exact h.sb⟩
theorem MIs.node {w:World} {p:Option Addr} {k:Int} {ws:List ByteArray} {a b:Qy} (h:MIs w p (.node k ws a b)):∃B x c pa pb,p=some ⟨B,0,none⟩/\KI B k ws pa pb x ws.length c w/\It w x ws.length ws/\MIs w pa a/\MIs w pb b:=by
 obtain⟨B,x,n,c,pa,pb,e,h2,⟨c0,c1,c2,c3,c4⟩,hr,qa,qb⟩:=h;have hn:n=ws.length:=hr.1;subst hn;exact⟨B,x,c,pa,pb,e,⟨h2,c0,c1,c2,c3,c4⟩,hr,qa,qb⟩
section
variable {bf:Nat} {nm:ByteArray} {pls:ByteArray->List Pl} {beg:ByteArray->List ByteArray} {w:World}
def Fg (pls:ByteArray->List Pl) (beg:ByteArray->List ByteArray):Qy->List Ht
 | .nil=>[]
 | .node k ws _ _=>DI pls beg k ws
structure AE (w:World) (bf:Nat) (nm:ByteArray) (pls:ByteArray->List Pl) (beg:ByteArray->List ByteArray) (B:Nat) (k:Int) (ws:List ByteArray) (pa pb x:Option Addr) (c:Nat) (wx:World):Prop where
 sv:SV w.heap.size bf nm wx
 nd:KI B k ws pa pb x ws.length c wx
 rw:It wx x ws.length ws
 fd:Fdr bf nm pls beg wx
 b:Below w.heap.size w wx
theorem AE.step {B:Nat} {k:Int} {ws:List ByteArray} {pa pb x:Option Addr} {c:Nat} {wx wy:World} (h:AE w bf nm pls beg B k ws pa pb x c wx) (hb:Below wx.heap.size wx wy):AE w bf nm pls beg B k ws pa pb x c wy:=
 ⟨h.sv.below hb,h.nd.below hb,h.rw.below hb,h.fd.below hb,h.b.trans (hb.mono h.b.size)⟩
theorem Qv {wx:World} {x:Option Addr} {s:ByteArray} {l:List ByteArray} (h:It wx x (s::l).length (s::l)):∃b o,x=some ⟨b,o,none⟩/\b<wx.heap.size/\wx.cell? ⟨b,o,none⟩=some (.string s)/\∀t l',l=t::l'->wx.cell? ⟨b,o+1,none⟩=some (.string t):=by
 obtain⟨_,_,hx⟩:=h;rcases hx with hx|⟨b,o,rfl,hb,hrow⟩
 ·cases hx
 ·refine⟨b,o,rfl,hb,hrow 0 (by simp),fun t l' e=> ?_⟩
  subst e;exact hrow 1 (by simp)
theorem Qd (k:Int) (ws:List ByteArray) (h1:k≠1) (h2:k=2->ws.length≠1) (h3:k=3->ws.length≠2):DI pls beg k ws=[]:=by
 unfold DI;rw[if_neg h1];split
 ·rename_i e
  match ws,h2 e with
  | [],_=>rfl
  | [_],h=>exact absurd rfl h
  |_::_::_,_=>rfl
 ·split
  ·rename_i e
   match ws,h3 e with
   | [],_=>rfl
   | [_],_=>rfl
   | [_,_],h=>exact absurd rfl h
   |_::_::_::_,_=>rfl
  ·rfl
theorem OB (hF:Fdr bf nm pls beg w) (q:Qy) (p:Option Addr) (hq:MIs w p q) (hk:QOk q):
  Calls Tryz.prog 65 #[.agg #[.pointer (some ⟨bf,0,none⟩),.string nm],.pointer p] w fun e w'=>∃v,e= .returned (.tuple #[v,.nilIface])/\InH w' v (Fg pls beg q)/\Below w.heap.size w w':=by
 have HSV0:Hid (SV w.heap.size bf nm (w.alloc (.cells #[.pointer (some ⟨bf,0,none⟩),.string nm] 85))):=SV.new bf nm w;have HB0:Hid (Below w.heap.size w (w.alloc (.cells #[.pointer (some ⟨bf,0,none⟩),.string nm] 85))):=DZ w _
 cases q with
 |nil=>
  obtain rfl:p=none:=hq;clear hk hF;go_enter Tryz.func65,Tryz.ntmps65;go_wp2;go_ret2;exact⟨_,rfl,InH.nil _,HB0.out⟩
 |node k ws a b=>
  obtain⟨B,x,c,pa,pb,rfl,hN,hr,_,_⟩:=hq.node;obtain⟨hws,_,_⟩:=hk;have HM:Hid (AE w bf nm pls beg B k ws pa pb x c _):=⟨HSV0.out,hN.below HB0.out,hr.below HB0.out,hF.below HB0.out,HB0.out⟩;have HWS:Hid (∀x∈ws,x.size<=100):=hws;have e0:Fg pls beg (.node k ws a b)=DI pls beg k ws:=rfl;rw[e0];clear hN hr e0 hws hF HSV0 HB0
  by_cases k1:k=1
  ·subst k1
   have e1:DI pls beg 1 ws=Cx (Ea pls ws):=rfl;rw[e1];obtain⟨_,s1,s2⟩:=HM.out.sv;obtain⟨_,n1,n2,n3,_,_⟩:=HM.out.nd;go_enter Tryz.func65,Tryz.ntmps65;go_wp2_with fail;have HM:Hid _:=AE.step HM.out (Below.refl _ _).drew
   go_region_held3 (fun w'=>w'.cell? ⟨w.heap.size,0,none⟩=some (.pointer (some ⟨bf,0,none⟩))/\w'.cell? ⟨w.heap.size,1,none⟩=some (.string nm)/\w'.cell? ⟨B,1,none⟩=some (.slice x ws.length c)) (exact⟨HM.out.sv.f,HM.out.sv.n,HM.out.nd.wd⟩)
    ((go_at_call 99;refine Calls.mono (Tp HM.out.fd x c ws HM.out.rw HWS.out) ?_;rintro _ w2 ⟨v2,rfl,hi2,hb2⟩;have HI2:Hid (InH w2 v2 (Cx (Ea pls ws))):=hi2;have HM:Hid _:=AE.step HM.out hb2;clear hb2 hi2))
   go_wp2;go_ret2;exact⟨_,rfl,HI2.out,HM.out.b⟩
  ·by_cases k2:k=2/\ws.length=1
   ·obtain⟨rfl,hl⟩:=k2
    obtain⟨s,rfl⟩:=List.length_eq_one_iff.1 hl;have e1:DI pls beg 2 [s]=FO pls [] (beg s):=rfl;rw[e1];obtain⟨b,o,rfl,hb,hc,_⟩:=Qv HM.out.rw;have hs:=HWS.out s (by simp);have HM2:Hid (AE w bf nm pls beg B 2 [s] pa pb (some ⟨b,o,none⟩) c _/\b<(w.alloc (.cells #[.pointer (some ⟨bf,0,none⟩),.string nm] 85)).heap.size/\(w.alloc (.cells #[.pointer (some ⟨bf,0,none⟩),.string nm] 85)).cell? ⟨b,o,none⟩=some (.string s)):=⟨HM.out,hb,hc⟩;obtain⟨_,s1,s2⟩:=HM.out.sv;obtain⟨_,n1,n2,n3,_,_⟩:=HM.out.nd;clear HM hb k1 hl;go_enter Tryz.func65,Tryz.ntmps65;go_wp2_with fail;have HM:Hid _:=AE.step HM2.out.1 (Below.refl _ _).drew;have HC:Hid (Below (w.alloc (.cells #[.pointer (some ⟨bf,0,none⟩),.string nm] 85)).heap.size (w.alloc (.cells #[.pointer (some ⟨bf,0,none⟩),.string nm] 85)) _):=(Below.refl _ _).drew
    go_region_held3 (fun w'=>w'.cell? ⟨w.heap.size,0,none⟩=some (.pointer (some ⟨bf,0,none⟩))/\w'.cell? ⟨w.heap.size,1,none⟩=some (.string nm)/\w'.cell? ⟨B,1,none⟩=some (.slice (some ⟨b,o,none⟩) 1 c)/\w'.cell? ⟨b,o,none⟩=some (.string s)) (exact⟨HM.out.sv.f,HM.out.sv.n,HM.out.nd.wd,by rw[HC.out.cell (p:=⟨b,_,none⟩) HM2.out.2.1];exact HM2.out.2.2⟩)
     ((go_at_call 100;refine Calls.mono (V4 HM.out.fd s hs) ?_;rintro _ w2 ⟨v2,rfl,hi2,hb2⟩;have HI2:Hid (InH w2 v2 (FO pls [] (beg s))):=hi2;have HM:Hid _:=AE.step HM.out hb2;have HC:Hid _:=HC.out.trans (hb2.mono HC.out.size);clear hb2 hi2))
    go_wp2;go_ret2;exact⟨_,rfl,HI2.out,HM.out.b⟩
   ·by_cases k3:k=3/\ws.length=2
    ·obtain⟨rfl,hl⟩:=k3
     obtain⟨s,t,rfl⟩:∃s t,ws=[s,t]:=by
      match ws,hl with
      | [s,t],_=>exact⟨s,t,rfl⟩
     have e1:DI pls beg 3 [s,t]=Ed pls s t:=rfl;rw[e1];obtain⟨b,o,rfl,hb,hc,hc2⟩:=Qv HM.out.rw;have hc2:=hc2 t [] rfl;have hs:=HWS.out s (by simp);have ht:=HWS.out t (by simp);have HM2:Hid (AE w bf nm pls beg B 3 [s,t] pa pb (some ⟨b,o,none⟩) c _/\b<(w.alloc (.cells #[.pointer (some ⟨bf,0,none⟩),.string nm] 85)).heap.size/\(w.alloc (.cells #[.pointer (some ⟨bf,0,none⟩),.string nm] 85)).cell? ⟨b,o,none⟩=some (.string s)/\(w.alloc (.cells #[.pointer (some ⟨bf,0,none⟩),.string nm] 85)).cell? ⟨b,o+1,none⟩=some (.string t)):=⟨HM.out,hb,hc,hc2⟩;obtain⟨_,s1,s2⟩:=HM.out.sv;obtain⟨_,n1,n2,n3,_,_⟩:=HM.out.nd;have n3':(w.alloc (.cells #[.pointer (some ⟨bf,0,none⟩),.string nm] 85)).cell? ⟨B,2,none⟩=some (.int .i64 3):=n3;clear HM hb k1 hl k2 n3;go_enter Tryz.func65,Tryz.ntmps65;go_wp2_with fail;have HM:Hid _:=AE.step HM2.out.1 (Below.refl _ _).drew;have HC:Hid (Below (w.alloc (.cells #[.pointer (some ⟨bf,0,none⟩),.string nm] 85)).heap.size (w.alloc (.cells #[.pointer (some ⟨bf,0,none⟩),.string nm] 85)) _):=(Below.refl _ _).drew
     go_region_held3 (fun w'=>w'.cell? ⟨w.heap.size,0,none⟩=some (.pointer (some ⟨bf,0,none⟩))/\w'.cell? ⟨w.heap.size,1,none⟩=some (.string nm)/\w'.cell? ⟨B,1,none⟩=some (.slice (some ⟨b,o,none⟩) 2 c)/\w'.cell? ⟨b,o,none⟩=some (.string s)/\w'.cell? ⟨b,o+1,none⟩=some (.string t)/\w'.cell? ⟨B,2,none⟩=some (.int .i64 3)) (exact⟨HM.out.sv.f,HM.out.sv.n,HM.out.nd.wd,by rw[HC.out.cell (p:=⟨b,_,none⟩) HM2.out.2.1];exact HM2.out.2.2.1,by rw[HC.out.cell (p:=⟨b,_,none⟩) HM2.out.2.1];exact HM2.out.2.2.2,HM.out.nd.far⟩)
      ((go_at_call 101;refine Calls.mono (U2 HM.out.fd s t hs ht) ?_;rintro _ w2 ⟨v2,rfl,hi2,hb2⟩;have HI2:Hid (InH w2 v2 (Ed pls s t)):=hi2;have HM:Hid _:=AE.step HM.out hb2;have HC:Hid _:=HC.out.trans (hb2.mono HC.out.size);clear hb2 hi2))
     go_wp2;go_ret2;exact⟨_,rfl,HI2.out,HM.out.b⟩
    ·have e1:DI pls beg k ws=[]:=Qd k ws k1 (fun e h=>k2 ⟨e,h⟩) (fun e h=>k3 ⟨e,h⟩)
     rw[e1];obtain⟨n,hn⟩:∃n,ws.length=n:=⟨_,rfl⟩;obtain⟨_,s1,s2⟩:=HM.out.sv;obtain⟨_,n1,n2,_,_,_⟩:=HM.out.nd;rw[hn]at n2 k2 k3;have j1:(k == 1)=false:=by simpa using k1
     have HB:Hid _:=HM.out.b;clear HM hn
     by_cases h2:k=2
     ·subst h2
      have j2:((n:Int) == 1)=false:=by simp;exact fun e=>k2 ⟨rfl,by omega⟩
      clear k1 k2 k3 e1;go_enter Tryz.func65,Tryz.ntmps65;go_wp2;go_ret2;exact⟨_,rfl,InH.nil _,HB.out⟩
     ·have j2:(k == 2)=false:=by simpa using h2
      by_cases h3:k=3
      ·subst h3
       have j3:((n:Int) == 2)=false:=by simp;exact fun e=>k3 ⟨rfl,by omega⟩
       clear k1 k2 k3 e1 h2;go_enter Tryz.func65,Tryz.ntmps65;go_wp2;go_ret2;exact⟨_,rfl,InH.nil _,HB.out⟩
      ·have j3:(k == 3)=false:=by simpa using h3
       clear k1 k2 k3 e1 h2 h3;go_enter Tryz.func65,Tryz.ntmps65;go_wp2;go_ret2;exact⟨_,rfl,InH.nil _,HB.out⟩
end
end
end Go.Proofs.YtgfldnaahojnlaaGreatDoor
