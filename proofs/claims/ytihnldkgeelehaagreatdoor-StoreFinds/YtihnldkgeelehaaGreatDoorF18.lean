/- StoreFinds: part 18. -/
import Derived.Test.YtihnldkgeelehaaGreatDoorF17
import Derived.Shelf.Strings.Builder1
import Derived.Shelf.LaysM
import Derived.Shelf.Strings.Search1
import Derived.Shelf.Strings.Search2
import Derived.Shelf.Strings.Search3
import Derived.Shelf.Strings.Cut
import Derived.Shelf.Strings.Prefix
import Derived.Ground.Names2Prog
import Derived.Test.YtihnldkgeelehaaGreatDoorProg
import Derived.Shelf.Sort.Plain
import Derived.Shelf.Slices.In.SortNone2
import Derived.Shelf.Slices.Turned
import Derived.Lib.Bytealg
import Derived.Lib.IndexMore
set_option maxRecDepth 100000
set_option maxHeartbeats 4000000
namespace Go.Proofs.YtihnldkgeelehaaGreatDoor
section
open Go.RowKit Go.Maps
structure Fs (bf bt bp:Nat) (bd:Sts) (bm N:Nat) (up:Nat->Bool) (V:Pst) (T:Tr) (w:World):Prop where
 c:Ai bf (.pointer (some ⟨bt,0,none⟩)) w
 t:Tt bt bp bd.r w
 tw:Tw bp bd.bd bm N sd0 up 1 V w
 a:Ck V bd.r T
 so:∃T4,SI bd bd.r bp bm V T T4 w
 hb:bd.tb bd.r=bt
 lt:bd.r<4
 ne:bt≠bp/\bt≠bm
 nc:bf≠bp/\bf≠bm
section
variable {bf bt bp:Nat} {bd:Sts} {bm N Z:Nat} {up:Nat->Bool} {V:Pst} {T:Tr} {M M':Pr->Prop} {w w':World}
theorem Fs.fo (h:Fs bf bt bp bd bm N up V T w):∃T4,SI bd bd.r bp bm V T T4 w/\Fo bp bd bm N up V T4 w:=by
 obtain⟨T4,hr⟩:=h.so;exact⟨T4,hr,hr.fo h.hb h.t h.tw h.a h.ne⟩
theorem Fs.count (h:Fs bf bt bp bd bm N up V T w):A1 V.used 2000<=240:=by
 obtain⟨T4,_,hf⟩:=h.fo;exact hf.count
theorem Fs.below (h:Fs bf bt bp bd bm N up V T w) (hb:Below w.heap.size w w'):Fs bf bt bp bd bm N up V T w':=by
 obtain⟨T4,hr,hf⟩:=h.fo;have e:=hr.me;subst e;exact⟨h.c.below hb,h.t.below hb,h.tw.below hb,h.a,⟨T4,(hf.below hb).rest hr.sz hr.mem⟩,h.hb,h.lt,h.ne,h.nc⟩
theorem Fs.only {S:Nat->Prop} (h:Fs bf bt bp bd bm N up V T w) (ho:Aa S w w') (h1:¬S bf) (h2:∀r,r<4->¬S (bd.tb r)) (h3:¬S bp) (h4:¬S bm) (h5:¬S bd.bd):Fs bf bt bp bd bm N up V T w':=by
 obtain⟨T4,hr,hf⟩:=h.fo;have e:=hr.me;subst e;exact⟨h.c.only ho h1,h.t.only ho (by rw[<-h.hb];exact h2 _ h.lt),h.tw.only ho h3 h4 h5,h.a,⟨T4,(hf.only ho h2 h3 h4 h5).rest hr.sz hr.mem⟩,h.hb,h.lt,h.ne,h.nc⟩
theorem Fs.lay {V':Pst} {N':Nat} {T':Tr} (h:Fs bf bt bp bd bm N up V T w) (h1:QM V V' bd.r T T') (h2:Tw bp bd.bd bm N' sd0 up 1 V' w') (h4:Aa (fun b=>b=bp\/b=bm) w w'):Fs bf bt bp bd bm N' up V' T' w':=by
 obtain⟨T4,hr,hf⟩:=h.fo;have e:=hr.me;subst e;have k:=hf.lay h.lt h1 h2 h4;refine⟨h.c.only h4 (fun e=>by rcases e with e|e;exact h.nc.1 e;exact h.nc.2 e),h.t.only h4 (fun e=>by rcases e with e|e;exact h.ne.1 e;exact h.ne.2 e),h2,h1.at_,⟨setT T4 bd.r T',?_⟩,h.hb,h.lt,h.ne,h.nc⟩;have:=k.rest (r:=bd.r) (fun s hs e=>by rw[Dg _ _ e];exact hr.sz s hs e) (fun s hs e=>by rw[Dg _ _ e];exact hr.mem s hs e);rw[CA]at this;exact this
theorem Fs.sorted (h:Fs bf bt bp bd bm N up V T w):T.all.Pairwise (fun a b=>bl a.k b.k=true):=h.a.ok.sorted
def PrS (bf bt bp:Nat) (bd:Sts) (bm N Z:Nat) (M:Pr->Prop) (w:World):Prop:=∃N1 up V T,N1<=N/\Fs bf bt bp bd bm N1 up V T w/\szL T.all<=Z/\∀x,x∈T.all↔M x
theorem PrS.below (h:PrS bf bt bp bd bm N Z M w) (hb:Below w.heap.size w w'):PrS bf bt bp bd bm N Z M w':=by
 obtain⟨N1,up,V,T,h1,h2,h3⟩:=h;exact⟨N1,up,V,T,h1,h2.below hb,h3⟩
theorem PrS.iff (h:PrS bf bt bp bd bm N Z M w) (hM:∀x,M x↔M' x):PrS bf bt bp bd bm N Z M' w:=by
 obtain⟨N1,up,V,T,h1,h2,h3,h4⟩:=h;exact⟨N1,up,V,T,h1,h2,h3,fun x=>(h4 x).trans (hM x)⟩
theorem PrS.mono {N' Z':Nat} (h:PrS bf bt bp bd bm N Z M w) (hN:N<=N') (hZ:Z<=Z'):PrS bf bt bp bd bm N' Z' M w:=by
 obtain⟨N1,up,V,T,h1,h2,h3,h4⟩:=h;exact⟨N1,up,V,T,by omega,h2,by omega,h4⟩
theorem PrS.own (h:PrS bf bt bp bd bm N Z M w):Ai bf (.pointer (some ⟨bt,0,none⟩)) w:=by
 obtain⟨N1,up,V,T,h1,h2,h3,h4⟩:=h;exact h2.c
theorem PrS.nec (h:PrS bf bt bp bd bm N Z M w):bf≠bp/\bf≠bm:=by
 obtain⟨N1,up,V,T,h1,h2,h3,h4⟩:=h;exact h2.nc
theorem V3 (h:PrS bf bt bp bd bm N Z M w) (x:Pr) (hx:x.Ok) (hZ:Z+x.sz<=30000) (hN:N+60<1000000):
  Calls Tryz.prog 69 #[.pointer (some ⟨bt,0,none⟩),.string x.k,.string x.i] w fun e w'=>e= .returned .nilIface/\PrS bf bt bp bd bm (N+40) (Z+x.sz) (fun y=>y=x\/(M y/\y.k≠x.k)) w'/\Aa (fun b=>b=bp\/b=bm) w w':=by
 obtain⟨N1,up,V,T,h1,h2,h3,h4⟩:=h;have hc:=h2.count;refine(OH h2.t h2.tw h2.ne h2.a x hx (by omega) (by omega)).mono ?_;rintro e w' ⟨A,mid,C,hr,hg⟩;have hsz:szL T.all=szL A+szL mid+szL C:=by rw[hr.all,Af,Af]
 have hs1:szL [x]=x.sz:=rfl;rcases hg with⟨hbig,_⟩|⟨_,rfl,V',N',T',g3,g4,g5,g6,g7⟩
 ·rw[Af,Af,hs1]at hbig
  omega
 ·refine⟨rfl,⟨N',up,V',T',by omega,h2.lay g4 g5 g7,?_,fun y=> ?_⟩,g7⟩
  ·rw[g3,Af,Af,hs1];omega
  ·show _↔y=x\/M y/\y.k≠x.k
   rw[g3,<-h4 y,hr.all];constructor
   ·intro hy
    simp only[List.mem_append,List.mem_singleton]at hy;rcases hy with(hy|hy)|hy
    ·exact .inr ⟨by simp[hy],Ih (hr.less y hy)⟩
    ·exact .inl hy
    ·exact .inr ⟨by simp[hy],fun e=>Ih (hr.more y hy) e.symm⟩
   ·rintro(rfl|⟨hy,hk⟩)
    ·simp
    ·simp only[List.mem_append]at hy
     rcases hy with(hy|hy)|hy
     ·simp[hy]
     ·rcases hr.mid_ with e|⟨z,e,hz⟩
      ·rw[e]at hy;cases hy
      ·rw[e]at hy
       obtain rfl:=List.mem_singleton.1 hy;exact absurd hz hk
     ·simp[hy]
theorem Uk (h:PrS bf bt bp bd bm N Z M w) (y:Pr) (hy:M y) (hN:N+60<1000000):
  Calls Tryz.prog 79 #[.pointer (some ⟨bt,0,none⟩),.string y.k] w fun e w'=>e= .returned .nilIface/\PrS bf bt bp bd bm (N+40) Z (fun z=>M z/\z≠y) w'/\Aa (fun b=>b=bp\/b=bm) w w':=by
 obtain⟨N1,up,V,T,h1,h2,h3,h4⟩:=h;have hc:=h2.count;have hyT:=(h4 y).2 hy;obtain⟨A,C,hall0⟩:=List.append_of_mem hyT;have hall:T.all=A++[y]++C:=by rw[hall0];simp
 have hs:(A++[y]++C).Pairwise (fun a b=>bl a.k b.k=true):=by rw[<-hall];exact h2.sorted
 refine(J6 h2.t h2.tw h2.ne h2.a y.k (by omega) (by omega)).mono ?_;rintro e w' (⟨hno,_⟩|⟨A',y',C',ha',hk',hg⟩)
 ·exact absurd rfl (hno y hyT)
 ·obtain⟨rfl,_,rfl⟩:=Ku (hall.symm.trans ha') hs hk'.symm
  rcases hg with⟨hbig,_⟩|⟨_,rfl,V',N',T',g3,g4,g5,g6,g7⟩
  ·have hsm:szL T.all<=30000:=h2.a.ok.sum
   rw[hall]at hsm;rw[Af,Af]at hsm hbig;simp only[szL]at hbig;omega
  ·have g3':T'.all=A++C:=by rw[g3];simp
   refine⟨rfl,⟨N',up,V',T',by omega,h2.lay g4 g5 g7,?_,fun z=> ?_⟩,g7⟩
   ·rw[g3',Af]
    rw[hall,Af,Af]at h3;omega
   ·show _↔M z/\z≠y
    rw[g3',<-h4 z,hall];constructor
    ·intro hz
     exact⟨by rcases List.mem_append.1 hz with hz|hz<;>simp[hz],Kt hs hz⟩
    ·rintro⟨hz,hne⟩
     simp only[List.mem_append,List.mem_singleton]at hz;rcases hz with(hz|hz)|hz
     ·simp[hz]
     ·exact absurd hz hne
     ·simp[hz]
theorem PrS.sts (h:PrS bf bt bp bd bm N Z M w):StS bp (bd.put bd.r M Z) bm N w:=by
 obtain⟨N1,up,V,T,h1,h2,h3,h4⟩:=h;obtain⟨T4,hr,hf⟩:=h2.fo;have e:=hr.me;refine⟨N1,up,V,T4,h1,⟨hf.t,hf.tw,hf.a,hf.own,hf.dis,hf.ne⟩,fun s hs=> ?_,fun s hs x=> ?_⟩
 ·show _<=if s=bd.r then Z else bd.Z s
  by_cases e3:s=bd.r
  ·rw[if_pos e3,e3,e];exact h3
  ·rw[if_neg e3];exact hr.sz s hs e3
 ·show _↔(if s=bd.r then M else bd.M s) x
  by_cases e3:s=bd.r
  ·rw[if_pos e3,e3,e];exact h4 x
  ·rw[if_neg e3];exact hr.mem s hs e3 x
theorem StS.prS (h:StS bp bd bm N w) (r:Nat) (hr:r<4) (hc:Ai bf (.pointer (some ⟨bd.tb r,0,none⟩)) w) (hn:bf≠bp/\bf≠bm):PrS bf (bd.tb r) bp (bd.at r) bm N (bd.Z r) (bd.M r) w:=by
 obtain⟨N1,up,V,T,h1,h2,h3,h4⟩:=h;have k:Fo bp (bd.at r) bm N1 up V T w:=⟨h2.t,h2.tw,h2.a,h2.own,h2.dis,h2.ne⟩;exact⟨N1,up,V,T r,h1,⟨hc,h2.t r hr,h2.tw,h2.a r hr,⟨T,k.rest (fun s hs _=>h3 s hs) (fun s hs _=>h4 s hs)⟩,rfl,hr,h2.ne r hr,hn⟩,h3 r hr,h4 r hr⟩
end
end
end Go.Proofs.YtihnldkgeelehaaGreatDoor
namespace Go.Proofs
open Go.Shelf
def Tryz.lays144_ren:Go.Shelf.Ren:=⟨fun|144=>162|143=>198|219=>187|217=>222|225=>223|224=>224|267=>225|266=>247|314=>248|n=>n,fun|9=>9|4=>4|3=>3|5=>5|46=>184|146=>318|51=>236|n=>n,fun|1=>1|n=>n⟩
theorem Tryz.lays144:Go.Proofs.Lays.n144 Tryz.prog Tryz.lays144_ren:={
 mixed:=by kernel_rfl
 f143:=Tryz.func198.trans (congrArg some (by kernel_rfl))
 f144:=Tryz.func162.trans (congrArg some (by kernel_rfl))
 f217:=Tryz.func222.trans (congrArg some (by kernel_rfl))
 f219:=Tryz.func187.trans (congrArg some (by kernel_rfl))
 f224:=Tryz.func224.trans (congrArg some (by kernel_rfl))
 f225:=Tryz.func223.trans (congrArg some (by kernel_rfl))
 f266:=Tryz.func247.trans (congrArg some (by kernel_rfl))
 f267:=Tryz.func225.trans (congrArg some (by kernel_rfl))
 f314:=Tryz.func248.trans (congrArg some (by kernel_rfl))
 t3:=Tryz.underlying3
 a3:=Tryz.isAgg3
 z3:=Tryz.sizeOf3
 v3:=Tryz.zeroValue3
 t4:=Tryz.underlying4
 a4:=Tryz.isAgg4
 z4:=Tryz.sizeOf4
 v4:=Tryz.zeroValue4
 t5:=Tryz.underlying5
 a5:=Tryz.isAgg5
 z5:=Tryz.sizeOf5
 v5:=Tryz.zeroValue5
 t9:=Tryz.underlying9
 a9:=Tryz.isAgg9
 z9:=Tryz.sizeOf9
 v9:=Tryz.zeroValue9
 t46:=Tryz.underlying184
 a46:=Tryz.isAgg184
 z46:=Tryz.sizeOf184
 v46:=Tryz.zeroValue184
 t51:=Tryz.underlying236
 a51:=Tryz.isAgg236
 z51:=Tryz.sizeOf236
 v51:=Tryz.zeroValue236
 t146:=Tryz.underlying318
 a146:=Tryz.isAgg318
 z146:=Tryz.sizeOf318
 v146:=Tryz.zeroValue318
 g1:=by kernel_rfl}
open Go.RowKit Go.Lib in
theorem Tryz.strings_Contains_one (s:ByteArray) (c:UInt8) (w:World):
  Calls Tryz.prog 162 #[.string s,.string ⟨#[c]⟩] w fun e w'=>e= .returned (.bool (decide (0<=Lib.indexByte s.data.toList c)))/\w'=w:=Any.strings_Contains_one Tryz.lays144 s c w
def Tryz.lays145_ren:Go.Shelf.Ren:=⟨fun|145=>97|220=>142|219=>187|217=>222|225=>223|224=>224|267=>225|266=>247|314=>248|n=>n,fun|9=>9|4=>4|59=>175|3=>3|5=>5|46=>184|146=>318|51=>236|n=>n,fun|1=>1|n=>n⟩
theorem Tryz.lays145:Go.Proofs.Lays.n145 Tryz.prog Tryz.lays145_ren:={
 mixed:=by kernel_rfl
 f145:=Tryz.func97.trans (congrArg some (by kernel_rfl))
 f217:=Tryz.func222.trans (congrArg some (by kernel_rfl))
 f219:=Tryz.func187.trans (congrArg some (by kernel_rfl))
 f220:=Tryz.func142.trans (congrArg some (by kernel_rfl))
 f224:=Tryz.func224.trans (congrArg some (by kernel_rfl))
 f225:=Tryz.func223.trans (congrArg some (by kernel_rfl))
 f266:=Tryz.func247.trans (congrArg some (by kernel_rfl))
 f267:=Tryz.func225.trans (congrArg some (by kernel_rfl))
 f314:=Tryz.func248.trans (congrArg some (by kernel_rfl))
 t3:=Tryz.underlying3
 a3:=Tryz.isAgg3
 z3:=Tryz.sizeOf3
 v3:=Tryz.zeroValue3
 t4:=Tryz.underlying4
 a4:=Tryz.isAgg4
 z4:=Tryz.sizeOf4
 v4:=Tryz.zeroValue4
 t5:=Tryz.underlying5
 a5:=Tryz.isAgg5
 z5:=Tryz.sizeOf5
 v5:=Tryz.zeroValue5
 t9:=Tryz.underlying9
 a9:=Tryz.isAgg9
 z9:=Tryz.sizeOf9
 v9:=Tryz.zeroValue9
 t46:=Tryz.underlying184
 a46:=Tryz.isAgg184
 z46:=Tryz.sizeOf184
 v46:=Tryz.zeroValue184
 t51:=Tryz.underlying236
 a51:=Tryz.isAgg236
 z51:=Tryz.sizeOf236
 v51:=Tryz.zeroValue236
 t59:=Tryz.underlying175
 a59:=Tryz.isAgg175
 z59:=Tryz.sizeOf175
 v59:=Tryz.zeroValue175
 t146:=Tryz.underlying318
 a146:=Tryz.isAgg318
 z146:=Tryz.sizeOf318
 v146:=Tryz.zeroValue318
 g1:=by kernel_rfl}
open Go.RowKit Go.Lib in
theorem Tryz.strings_Cut (s sep:ByteArray) (m:Int) (w:World) (hs:s.size<4294967281) (hm:w.cell? ⟨1,0,none⟩=some (.int .i64 m)):
  Calls Tryz.prog 97 #[.string s,.string sep] w fun e w'=>e= .returned (.tuple #[.string ⟨(Lib.cut s.data.toList sep.data.toList).1.toArray⟩,.string ⟨(Lib.cut s.data.toList sep.data.toList).2.1.toArray⟩,.bool (Lib.cut s.data.toList sep.data.toList).2.2])/\∃n,w'=w.drewN n:=Any.strings_Cut Tryz.lays145 s sep m w hs hm
end Go.Proofs
namespace Go.Proofs.YtihnldkgeelehaaGreatDoor
end Go.Proofs.YtihnldkgeelehaaGreatDoor
namespace Go.Proofs
open Go.Shelf
def Tryz.lays189_ren:Go.Shelf.Ren:=⟨fun|189=>48|125=>103|257=>102|128=>154|129=>155|294=>145|295=>146|296=>147|297=>148|298=>149|299=>150|216=>151|300=>152|301=>153|328=>192|329=>193|330=>194|331=>195|332=>196|215=>136|343=>227|n=>n,fun|28=>69|3=>3|46=>184|0=>0|51=>236|53=>238|4=>4|183=>228|182=>227|131=>233|5=>5|9=>9|218=>260|222=>264|228=>291|229=>245|n=>n,fun|n=>n⟩
theorem Tryz.lays189:Go.Proofs.Lays.n189 Tryz.prog Tryz.lays189_ren:={
 mixed:=by kernel_rfl
 f125:=Tryz.func103.trans (congrArg some (by kernel_rfl))
 f128:=Tryz.func154.trans (congrArg some (by kernel_rfl))
 f129:=Tryz.func155.trans (congrArg some (by kernel_rfl))
 f189:=Tryz.func48.trans (congrArg some (by kernel_rfl))
 f215:=Tryz.func136.trans (congrArg some (by kernel_rfl))
 f216:=Tryz.func151.trans (congrArg some (by kernel_rfl))
 f257:=Tryz.func102.trans (congrArg some (by kernel_rfl))
 f294:=Tryz.func145.trans (congrArg some (by kernel_rfl))
 f295:=Tryz.func146.trans (congrArg some (by kernel_rfl))
 f296:=Tryz.func147.trans (congrArg some (by kernel_rfl))
 f297:=Tryz.func148.trans (congrArg some (by kernel_rfl))
 f298:=Tryz.func149.trans (congrArg some (by kernel_rfl))
 f299:=Tryz.func150.trans (congrArg some (by kernel_rfl))
 f300:=Tryz.func152.trans (congrArg some (by kernel_rfl))
 f301:=Tryz.func153.trans (congrArg some (by kernel_rfl))
 f328:=Tryz.func192.trans (congrArg some (by kernel_rfl))
 f329:=Tryz.func193.trans (congrArg some (by kernel_rfl))
 f330:=Tryz.func194.trans (congrArg some (by kernel_rfl))
 f331:=Tryz.func195.trans (congrArg some (by kernel_rfl))
 f332:=Tryz.func196.trans (congrArg some (by kernel_rfl))
 f343:=Tryz.func227.trans (congrArg some (by kernel_rfl))
 t0:=Tryz.underlying0
 a0:=Tryz.isAgg0
 z0:=Tryz.sizeOf0
 v0:=Tryz.zeroValue0
 t3:=Tryz.underlying3
 a3:=Tryz.isAgg3
 z3:=Tryz.sizeOf3
 v3:=Tryz.zeroValue3
 t4:=Tryz.underlying4
 a4:=Tryz.isAgg4
 z4:=Tryz.sizeOf4
 v4:=Tryz.zeroValue4
 t5:=Tryz.underlying5
 a5:=Tryz.isAgg5
 z5:=Tryz.sizeOf5
 v5:=Tryz.zeroValue5
 t9:=Tryz.underlying9
 a9:=Tryz.isAgg9
 z9:=Tryz.sizeOf9
 v9:=Tryz.zeroValue9
 t28:=Tryz.underlying69
 a28:=Tryz.isAgg69
 z28:=Tryz.sizeOf69
 v28:=Tryz.zeroValue69
 t46:=Tryz.underlying184
 a46:=Tryz.isAgg184
 z46:=Tryz.sizeOf184
 v46:=Tryz.zeroValue184
 t51:=Tryz.underlying236
 a51:=Tryz.isAgg236
 z51:=Tryz.sizeOf236
 v51:=Tryz.zeroValue236
 t53:=Tryz.underlying238
 a53:=Tryz.isAgg238
 z53:=Tryz.sizeOf238
 v53:=Tryz.zeroValue238
 t131:=Tryz.underlying233
 a131:=Tryz.isAgg233
 z131:=Tryz.sizeOf233
 v131:=Tryz.zeroValue233
 t182:=Tryz.underlying227
 a182:=Tryz.isAgg227
 z182:=Tryz.sizeOf227
 v182:=Tryz.zeroValue227
 t183:=Tryz.underlying228
 a183:=Tryz.isAgg228
 z183:=Tryz.sizeOf228
 v183:=Tryz.zeroValue228
 t218:=Tryz.underlying260
 a218:=Tryz.isAgg260
 z218:=Tryz.sizeOf260
 v218:=Tryz.zeroValue260
 t222:=Tryz.underlying264
 a222:=Tryz.isAgg264
 z222:=Tryz.sizeOf264
 v222:=Tryz.zeroValue264
 t228:=Tryz.underlying291
 a228:=Tryz.isAgg291
 z228:=Tryz.sizeOf291
 v228:=Tryz.zeroValue291
 t229:=Tryz.underlying245
 a229:=Tryz.isAgg245
 z229:=Tryz.sizeOf245
 v229:=Tryz.zeroValue245}
open Go.Sort Go.RowKit in
theorem Tryz.slices_Sort_int (blk off cap:Nat) (zs:List Int) (w:World) (hH:Holds (Value.int .i64) w blk off zs.toArray) (hblk:blk<w.heap.size) (hsz:zs.length<4611686018427387904):
  Calls Tryz.prog 48 #[.slice (some ⟨blk,off,none⟩) zs.length cap] w fun e w'=>
   e= .returned (.tuple #[])/\∃n os,w'=grow (putRow (Value.int .i64) (Sort.ahead w n) blk off (zs.mergeSort fun x y=>decide (x<=y)).toArray) os:=Any.slices_Sort_int Tryz.lays189 blk off cap zs w hH hblk hsz
def Tryz.lays110_ren:Go.Shelf.Ren:=⟨fun|110=>44|109=>99|n=>n,fun|31=>85|9=>9|4=>4|3=>3|0=>0|n=>n,fun|n=>n⟩
theorem Tryz.lays110:Go.Proofs.Lays.n110 Tryz.prog Tryz.lays110_ren:={
 mixed:=by kernel_rfl
 f109:=Tryz.func99.trans (congrArg some (by kernel_rfl))
 f110:=Tryz.func44.trans (congrArg some (by kernel_rfl))
 t0:=Tryz.underlying0
 a0:=Tryz.isAgg0
 z0:=Tryz.sizeOf0
 v0:=Tryz.zeroValue0
 t3:=Tryz.underlying3
 a3:=Tryz.isAgg3
 z3:=Tryz.sizeOf3
 v3:=Tryz.zeroValue3
 t4:=Tryz.underlying4
 a4:=Tryz.isAgg4
 z4:=Tryz.sizeOf4
 v4:=Tryz.zeroValue4
 t9:=Tryz.underlying9
 a9:=Tryz.isAgg9
 z9:=Tryz.sizeOf9
 v9:=Tryz.zeroValue9
 t31:=Tryz.underlying85
 a31:=Tryz.isAgg85
 z31:=Tryz.sizeOf85
 v31:=Tryz.zeroValue85}
open Go.Lib in
theorem Tryz.slices_Contains_string (b off n c:Nat) (zs:List ByteArray) (x:ByteArray) (w:World) (hz:n<=zs.length) (hbig:n<=9223372036854775807) (hc:∀j,j<zs.length->w.cell? ⟨b,off+j,none⟩=some (.string (zs.getD j ByteArray.empty))):
  Calls Tryz.prog 44 #[.slice (some ⟨b,off,none⟩) n c,.string x] w fun e w'=>e= .returned (.bool (Lib.containsS (zs.take n) x))/\w'=w:=Any.slices_Contains_string Tryz.lays110 b off n c zs x w hz hbig hc
open Go.Lib in
theorem Tryz.slices_Contains_string_empty (a:Option Addr) (c:Nat) (x:ByteArray) (w:World):
  Calls Tryz.prog 44 #[.slice a 0 c,.string x] w fun e w'=>e= .returned (.bool false)/\w'=w:=Any.slices_Contains_string_empty Tryz.lays110 a c x w
open Go.RowKit Go.Sort in
theorem Tryz.slices_Sort_int_none (p:Option Addr) (cap:Nat) (w:World):
  Calls Tryz.prog 48 #[.slice p 0 cap] w fun e w'=>e= .returned (.tuple #[])/\w'=w:=Any.slices_Sort_int_none Tryz.lays189 p cap w
end Go.Proofs
namespace Go.Proofs.YtihnldkgeelehaaGreatDoor
section
open Go.RowKit Go.Maps
def Ap (name:ByteArray):ByteArray:=name++⟨#[0]⟩
theorem Et (name:ByteArray) (h:name.size<=140737488351232) (w:World):Calls Tryz.prog 61 #[.string name] w fun e w'=>e= .returned (.string (Ap name))/\w'=w:=by
 have hs:=Dk name ⟨#[0]⟩ (by show name.size+1<=_;omega);go_enter Tryz.func61,Tryz.ntmps61;go_wp2;go_ret;exact⟨rfl,rfl⟩
def Ef (b:Bool):Int:=if b then 1 else 0
theorem GY (b:Bool) (w:World):Calls Tryz.prog 132 #[.bool b] w fun e w'=>e= .returned (.int .u8 (Ef b))/\w'=w:=by
 cases b
 ·go_enter Tryz.func132,Tryz.ntmps132
  go_wp2;go_ret;exact⟨rfl,rfl⟩
 ·go_enter Tryz.func132,Tryz.ntmps132
  go_wp2;go_ret;exact⟨rfl,rfl⟩
theorem R8 (bt:Nat) (w:World):Calls Tryz.prog 51 #[.pointer (some ⟨bt,0,none⟩)] w fun e w'=>e= .returned (.tuple #[.pointer (some ⟨w.heap.size,0,none⟩),.nilIface])/\w'=w.alloc (.cells #[.pointer (some ⟨bt,0,none⟩)] 179):=by
 go_enter Tryz.func51,Tryz.ntmps51;go_wp2;go_ret2;exact⟨rfl,rfl⟩
def BW (s:ByteArray):Bool:=decide (1<=s.size) && decide (s.size<=16) && !decide (0<=Lib.indexByte s.data.toList 0)
structure Col where
 nm:ByteArray
 kd:Nat
 mu:Bool
 wo:Bool
 ix:Bool
structure Tb where
 id:Nat
 nm:ByteArray
 cs:List Col
 nx:Nat
def AV (b:Bool):UInt8:=if b then 1 else 0
def AH (id n:Nat):ByteArray:=⟨#[Aq (id:Int),0,0,0,0,0,0,0,Aq (n:Int)]⟩
def AU (c:Col):ByteArray:=⟨#[Aq (c.kd:Int),AV c.mu,AV c.wo,AV c.ix]⟩++c.nm
def Bv (nm:ByteArray) (i:Nat):ByteArray:=Ap nm++⟨#[Aq ((i:Int)+1)]⟩
def Dy (nm:ByteArray):Nat->List Col->List Pr
 |_,[]=>[]
 |i,c::r=>⟨Bv nm i,AU c⟩::Dy nm (i+1) r
def Tb.prs (t:Tb):List Pr:=⟨Ap t.nm,AH t.id t.nx⟩::Dy t.nm 0 t.cs
structure Col.Ok (c:Col):Prop where
 nm:BW c.nm=true
 kd:c.kd=1\/c.kd=2
structure Tb.Ok (t:Tb):Prop where
 nm:BW t.nm=true
 id:1<=t.id/\t.id<=20
 cs:t.cs.length<=6
 col:∀c∈t.cs,c.Ok
 nx:t.nx<256
theorem F0 {s:ByteArray} (h:BW s=true):(0:UInt8)∉s.data.toList:=by
 unfold BW at h;simp only[Bool.and_eq_true,Bool.not_eq_true',decide_eq_false_iff_not]at h;exact fun hm=>h.2 ((CL _ _).1.2 hm)
theorem Bg {s:ByteArray} (h:BW s=true):1<=s.size/\s.size<=16:=by
 unfold BW at h;simp only[Bool.and_eq_true,decide_eq_true_eq]at h;exact h.1
theorem C9 (s:ByteArray):(Ap s).data.toList=s.data.toList++[0]:=by simp[Ap]
theorem Be (s:ByteArray):(Ap s).size=s.size+1:=by unfold Ap;rw[ByteArray.size_append];rfl
theorem D8 (s:ByteArray) (i:Nat):(Bv s i).data.toList=s.data.toList++0::[Aq ((i:Int)+1)]:=by simp[Bv,C9]
theorem CF (s:ByteArray) (i:Nat):(Bv s i).size=s.size+2:=by unfold Bv;rw[ByteArray.size_append,Be];rfl
theorem CZ (c:Col):(AU c).size=c.nm.size+4:=by
 unfold AU;rw[ByteArray.size_append];show 4+c.nm.size=_;omega
theorem Ez {nm:ByteArray}:∀(l:List Col) (i:Nat) (x:Pr),x∈Dy nm i l->∃j c,i<=j/\j<i+l.length/\c∈l/\x=⟨Bv nm j,AU c⟩
 | [],_,_,h=>by cases h
 |c::r,i,x,h=>by
  unfold Dy at h;rcases List.mem_cons.1 h with rfl|h
  ·exact⟨i,c,Nat.le_refl _,by simp,by simp,rfl⟩
  ·obtain⟨j,c',h1,h2,h3,h4⟩:=Ez r (i+1) x h
   exact⟨j,c',by omega,by simp only[List.length_cons];omega,by simp[h3],h4⟩
theorem Iu {t:Tb} (ht:t.Ok) {x:Pr} (h:x∈t.prs):∃y,(0:UInt8)∉y/\x.k.data.toList=t.nm.data.toList++0::y:=by
 unfold Tb.prs at h;rcases List.mem_cons.1 h with rfl|h
 ·exact⟨[],by simp,C9 _⟩
 ·obtain⟨j,c,_,h2,_,rfl⟩:=Ez _ _ _ h
  have:=ht.cs;exact⟨[Aq ((j:Int)+1)],by simpa using(S6 (i:=j) (by omega)).symm,D8 _ _⟩
theorem U9 {t:Tb} (ht:t.Ok) {x:Pr} (h:x∈t.prs):x.Ok:=by
 have hn:=Bg ht.nm;unfold Tb.prs at h;rcases List.mem_cons.1 h with rfl|h
 ·refine⟨?_,?_,?_⟩
  ·show 1<=(Ap t.nm).size;rw[Be];omega
  ·show(Ap t.nm).size<=60;rw[Be];omega
  ·show(AH t.id t.nx).size<=100
   exact Nat.le_of_ble_eq_true rfl
 ·obtain⟨j,c,_,h2,hc,rfl⟩:=Ez _ _ _ h
  have hc:=Bg (ht.col c hc).nm;refine⟨?_,?_,?_⟩
  ·show 1<=(Bv t.nm j).size;rw[CF];omega
  ·show(Bv t.nm j).size<=60;rw[CF];omega
  ·show(AU c).size<=100;rw[CZ];omega
theorem Nh {nm:ByteArray} (hn:nm.size<=16):∀(l:List Col) (i:Nat),(∀c∈l,c.Ok)->szL (Dy nm i l)<=40 * l.length
 | [],_,_=>Nat.le_refl _
 |c::r,i,h=>by
  have ih:=Nh hn r (i+1) (fun c' hc'=>h c' (by simp[hc']));have hc:=Bg (h c (by simp)).nm;unfold Dy szL Pr.sz;simp only[List.length_cons];rw[CF,CZ];omega
theorem Rx {t:Tb} (ht:t.Ok):szL t.prs<=300:=by
 have hn:=Bg ht.nm;have h1:=Nh hn.2 t.cs 0 ht.col;have h2:=ht.cs;unfold Tb.prs szL Pr.sz;simp only;rw[Be];have:(AH t.id t.nx).size=9:=rfl;omega
theorem GG {nm:ByteArray}:∀(l:List Col) (i:Nat),i+l.length<255->(Dy nm i l).Pairwise (fun a b=>bl a.k b.k=true)
 | [],_,_=>List.Pairwise.nil
 |c::r,i,h=>by
  unfold Dy;simp only[List.length_cons]at h;refine List.Pairwise.cons (fun y hy=> ?_) (GG r (i+1) (by omega));obtain⟨j,c',h1,h2,_,rfl⟩:=Ez _ _ _ hy;rw[Ch,D8,D8];refine De _ _ _ ?_;rw[List.cons_lt_cons_iff];refine .inr ⟨rfl,?_⟩;rw[List.cons_lt_cons_iff,UInt8.lt_iff_toNat_lt,Dd (by omega),Dd (by omega)];exact .inl (by omega)
theorem FO {t:Tb} (ht:t.Ok):t.prs.Pairwise (fun a b=>bl a.k b.k=true):=by
 have h:=ht.cs;unfold Tb.prs;refine List.Pairwise.cons (fun y hy=> ?_) (GG _ _ (by omega));obtain⟨j,c',_,_,_,rfl⟩:=Ez _ _ _ hy;rw[Ch,C9,D8];refine De _ _ _ ?_;rw[List.cons_lt_cons_iff];exact .inr ⟨rfl,List.nil_lt_cons _ _⟩
theorem DI {s t:Tb} (hs:s.Ok) (ht:t.Ok) (h:bl s.nm t.nm=true) {x y:Pr} (hx:x∈s.prs) (hy:y∈t.prs):bl x.k y.k=true:=by
 obtain⟨a,_,ha⟩:=Iu hs hx;obtain⟨b,_,hb⟩:=Iu ht hy;rw[Ch,ha,hb];exact Iv _ _ ((Ch _ _).1 h) (F0 ht.nm) _ _
theorem Ib:∀(L:List Tb),(∀t∈L,t.Ok)->L.Pairwise (fun a b=>bl a.nm b.nm=true)->(L.flatMap Tb.prs).Pairwise (fun a b=>bl a.k b.k=true)
 | [],_,_=>List.Pairwise.nil
 |t::L,h,hp=>by
  rw[List.pairwise_cons]at hp;rw[List.flatMap_cons,List.pairwise_append];refine⟨FO (h t (by simp)),Ib L (fun s hs=>h s (by simp[hs])) hp.2,fun x hx y hy=> ?_⟩;obtain⟨s,hs,hy⟩:=List.mem_flatMap.1 hy;exact DI (h t (by simp)) (h s (by simp[hs])) (hp.1 s hs) hx hy
structure Cat (L:List Tb) (l:List Pr):Prop where
 ok:∀t∈L,t.Ok
 srt:L.Pairwise (fun a b=>bl a.nm b.nm=true)
 mem:∀x,x∈l↔x∈L.flatMap Tb.prs
theorem Cat.all {L:List Tb} {l:List Pr} (h:Cat L l) (hs:l.Pairwise (fun a b=>bl a.k b.k=true)):l=L.flatMap Tb.prs:=
 EA _ _ hs (Ib L h.ok h.srt) h.mem
theorem I0:∀(L:List Tb),(∀t∈L,t.Ok)->szL (L.flatMap Tb.prs)<=300 * L.length
 | [],_=>Nat.le_refl _
 |t::L,h=>by
  have ih:=I0 L (fun s hs=>h s (by simp[hs]));have h1:=Rx (h t (by simp));rw[List.flatMap_cons,Af,List.length_cons];omega
theorem NG (nm:ByteArray) {t:Tb} (ht:t.Ok):t.prs.filter (fun x=>pfx (Ap nm) 0 x.k)=if t.nm=nm then t.prs else []:=by
 by_cases h:t.nm=nm
 ·rw[if_pos h]
  refine List.filter_eq_self.2 fun x hx=> ?_;obtain⟨y,_,hy⟩:=Iu ht hx;unfold pfx Lib.hasPrefix;rw[hy,C9,<-h,show t.nm.data.toList++0::y=(t.nm.data.toList++[0])++y by simp];exact Jf _ _
 ·rw[if_neg h]
  refine List.filter_eq_nil_iff.2 fun x hx hp=>h ?_;obtain⟨y,h0,hy⟩:=Iu ht hx;unfold pfx Lib.hasPrefix at hp;rw[hy,C9]at hp;exact ByteArray.ext (Array.toList_inj.1 (M9 _ _ _ (F0 ht.nm) h0 hp).symm)
def atN (L:List Tb) (nm:ByteArray):List Tb:=L.filter (fun t=>decide (t.nm=nm))
theorem Ic (nm:ByteArray):∀(L:List Tb),(∀t∈L,t.Ok)->(L.flatMap Tb.prs).filter (fun x=>pfx (Ap nm) 0 x.k)=(atN L nm).flatMap Tb.prs
 | [],_=>rfl
 |t::L,h=>by
  have ih:=Ic nm L (fun s hs=>h s (by simp[hs]));rw[List.flatMap_cons,List.filter_append,NG nm (h t (by simp)),ih];unfold atN;rw[List.filter_cons]
  by_cases hn:t.nm=nm
  ·simp[hn]
  ·simp[hn]
theorem Cat.prefix {L:List Tb} {l:List Pr} (h:Cat L l) (hs:l.Pairwise (fun a b=>bl a.k b.k=true)) (nm:ByteArray):Bd (pfx (Ap nm)) (Ap nm) 0 l=(atN L nm).flatMap Tb.prs:=by
 rw[IB _ _ _ hs,h.all hs,Ic nm L h.ok]
theorem Cat.every {L:List Tb} {l:List Pr} (h:Cat L l) (hs:l.Pairwise (fun a b=>bl a.k b.k=true)):Bd (pfx ⟨#[]⟩) ⟨#[]⟩ 0 l=L.flatMap Tb.prs:=by
 rw[IB _ _ _ hs,h.all hs];exact List.filter_eq_self.2 fun x _=>rfl
theorem I4 {L:List Tb} (h:L.Pairwise (fun a b=>bl a.nm b.nm=true)) {t:Tb} (ht:t∈L):atN L t.nm=[t]:=by
 induction L with
 |nil=>cases ht
 |cons s L ih=>
  rw[List.pairwise_cons]at h;unfold atN;rw[List.filter_cons];rcases List.mem_cons.1 ht with rfl|ht
  ·rw[if_pos (by simp)]
   have:List.filter (fun u=>decide (u.nm=t.nm)) L=[]:=List.filter_eq_nil_iff.2 fun u hu e=>by
    have h1:=h.1 u hu;rw[of_decide_eq_true e,Ar]at h1;cases h1
   rw[this]
  ·have hne:¬s.nm=t.nm:=fun e=>by
    have h1:=h.1 t ht;rw[e,Ar]at h1;cases h1
   rw[if_neg (by simp[hne])];exact ih h.2 ht
theorem SD {L:List Tb} {nm:ByteArray} (h:∀t∈L,t.nm≠nm):atN L nm=[]:=List.filter_eq_nil_iff.2 fun t ht e=>h t ht (of_decide_eq_true e)
def JX (t:Tb):List Tb->List Tb
 | []=>[t]
 |s::L=>if bl t.nm s.nm=true then t::s::L else s::JX t L
theorem Ew (t:Tb):∀(L:List Tb) (x:Tb),x∈JX t L↔x=t\/x∈L
 | [],x=>by simp[JX]
 |s::L,x=>by
  unfold JX;split
  ·simp
  ·rw[List.mem_cons,Ew t L x,List.mem_cons]
   constructor
   ·rintro(h|h|h)
    ·exact .inr (.inl h)
    ·exact .inl h
    ·exact .inr (.inr h)
   ·rintro(h|h|h)
    ·exact .inr (.inl h)
    ·exact .inl h
    ·exact .inr (.inr h)
theorem Hz (t:Tb):∀(L:List Tb),L.Pairwise (fun a b=>bl a.nm b.nm=true)->(∀s∈L,s.nm≠t.nm)->(JX t L).Pairwise (fun a b=>bl a.nm b.nm=true)
 | [],_,_=>by simp[JX]
 |s::L,h,hn=>by
  rw[List.pairwise_cons]at h;unfold JX;split
  ·rename_i hb
   refine List.Pairwise.cons (fun u hu=> ?_) (List.pairwise_cons.2 h);rcases List.mem_cons.1 hu with rfl|hu
   ·exact hb
   ·exact Cw hb (h.1 u hu)
  ·rename_i hb
   refine List.Pairwise.cons (fun u hu=> ?_) (Hz t L h.2 (fun s hs=>hn s (by simp[hs])));rcases(Ew t L u).1 hu with rfl|hu
   ·rcases DW s.nm u.nm with h1|h1|h1
    ·exact h1
    ·exact absurd h1 (hn s (by simp))
    ·exact absurd h1 hb
   ·exact h.1 u hu
theorem Cat.put {L:List Tb} {l l':List Pr} (h:Cat L l) {t:Tb} (ht:t.Ok) (hn:∀s∈L,s.nm≠t.nm) (hm:∀x,x∈l'↔x∈t.prs\/(x∈l/\∀y∈t.prs,x.k≠y.k)):Cat (JX t L) l':=by
 refine⟨fun s hs=> ?_,Hz t L h.srt hn,fun x=> ?_⟩
 ·rcases(Ew t L s).1 hs with rfl|hs
  ·exact ht
  ·exact h.ok s hs
 ·rw[hm x,h.mem x,List.mem_flatMap,List.mem_flatMap]
  constructor
  ·rintro(hx|⟨⟨s,hs,hx⟩,_⟩)
   ·exact⟨t,(Ew t L t).2 (.inl rfl),hx⟩
   ·exact⟨s,(Ew t L s).2 (.inr hs),hx⟩
  ·rintro⟨s,hs,hx⟩
   rcases(Ew t L s).1 hs with rfl|hs
   ·exact .inl hx
   ·refine .inr ⟨⟨s,hs,hx⟩,fun y hy e=> ?_⟩
    rcases DW s.nm t.nm with h1|h1|h1
    ·have:=DI (h.ok s hs) ht h1 hx hy
     rw[e,Ar]at this;cases this
    ·exact hn s hs h1
    ·have:=DI ht (h.ok s hs) h1 hy hx
     rw[e,Ar]at this;cases this
def TE (L:List Tb) (nm:ByteArray):List Tb:=L.filter (fun t=>decide (t.nm≠nm))
theorem J8 {L:List Tb} {nm:ByteArray} {t:Tb}:t∈TE L nm↔t∈L/\t.nm≠nm:=by unfold TE;rw[List.mem_filter];simp
theorem Cat.drop {L:List Tb} {l l':List Pr} (h:Cat L l) {t:Tb} (ht:t∈L) (hm:∀x,x∈l'↔x∈l/\x∉t.prs):Cat (TE L t.nm) l':=by
 refine⟨fun s hs=>h.ok s (J8.1 hs).1,h.srt.sublist List.filter_sublist,fun x=> ?_⟩;rw[hm x,h.mem x,List.mem_flatMap,List.mem_flatMap];constructor
 ·rintro⟨⟨s,hs,hx⟩,hn⟩
  refine⟨s,J8.2 ⟨hs,fun e=>hn ?_⟩,hx⟩;have h1:=I4 h.srt hs;have h2:=I4 h.srt ht;rw[e,h2]at h1
  cases h1
  exact hx
 ·rintro⟨s,hs,hx⟩
  obtain⟨h1,h2⟩:=J8.1 hs;refine⟨⟨s,h1,hx⟩,fun hy=> ?_⟩;rcases DW s.nm t.nm with h3|h3|h3
  ·have:=DI (h.ok s h1) (h.ok t ht) h3 hx hy
   rw[Ar]at this;cases this
  ·exact h2 h3
  ·have:=DI (h.ok t ht) (h.ok s h1) h3 hy hx
   rw[Ar]at this;cases this
end
end Go.Proofs.YtihnldkgeelehaaGreatDoor
