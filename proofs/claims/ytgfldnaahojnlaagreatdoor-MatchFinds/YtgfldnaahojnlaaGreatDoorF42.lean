/- MatchFinds: part 42. -/
import Derived.Test.YtgfldnaahojnlaaGreatDoorF17
import Derived.Test.YtgfldnaahojnlaaGreatDoorRows
import Derived.ProofKit
import Derived.OpenShut
import Derived.Deep.DeepHandedRow
import Derived.Lib.LaidU8
set_option maxRecDepth 100000
set_option maxHeartbeats 4000000
namespace Go.Proofs.YtgfldnaahojnlaaGreatDoor
section
open Go.ChangeShapes Go.WideShapes Go.ChangeAt Go.RowKit
theorem EE:Tryz.prog.globalNamed "concordance/word.ends" =some 0:=by kernel_rfl
theorem Yu:(Tryz.prog.globals[0]?).map (·.type)=some 165:=by kernel_rfl
theorem Yh:Tryz.prog.cellsOf 164=2:=by kernel_rfl
theorem Hi {H:Type} {enc:TypeId×Value->H} {W:World} {spare:Nat->Bool} {held:Bool} {fuel:Nat} {cs:List Value} {i:Nat} {a b:List UInt8} {q:List MemPlace}
  (h:DataW.trod enc Tryz.prog W 0 spare held fuel 164 ((cs.drop (i * 2)).take 2)=some (.agg [.lit (.string a),.lit (.string b)],q)):
  cs[i * 2]? =some (.string ⟨a.toArray⟩)/\cs[i * 2+1]? =some (.string ⟨b.toArray⟩):=by
 obtain⟨y0,y1,n,hx,hl,t0,t1⟩:=trod_struct2 Tryz.underlying164 h;simp only[Yi]at t0 t1;obtain⟨s0,e0,f0,_⟩:=DataW.trod_string Tryz.underlying9 t0;obtain⟨s1,e1,f1,_⟩:=DataW.trod_string Tryz.underlying9 t1;subst f0 f1;simp at hx;obtain⟨⟨rfl,rfl⟩,_⟩:=hx;have g0:=congrArg (·[0]?) e0;have g1:=congrArg (·[0]?) e1;simp[List.getElem?_drop]at g0 g1;exact⟨by simpa using g0,by simpa using g1⟩
theorem WJ {W:World} {fuel:Nat} {cs:Array Value} {p:List MemPlace} {spare:Nat->Bool} {held:Bool} {enc:TypeId×Value->Unit} (hv:W.var? Tryz.prog "concordance/word.ends" =some cs)
  (h:DataW.trod enc Tryz.prog W 0 spare held fuel 165 cs.toList=some (Rows.laid_concordance_word_ends,p)):AQ W:=by
 have each:=fun i hi=>Lib.array_elem (n:=7) Tryz.underlying165 h i hi;simp only[Yh]at each;obtain⟨_,d0,_,hd0,ht0⟩:=each 0 (by omega);obtain rfl:=Option.some.inj hd0;have g0:=Hi (i:=0) ht0;obtain⟨_,d1,_,hd1,ht1⟩:=each 1 (by omega);obtain rfl:=Option.some.inj hd1;have g1:=Hi (i:=1) ht1;obtain⟨_,d2,_,hd2,ht2⟩:=each 2 (by omega);obtain rfl:=Option.some.inj hd2;have g2:=Hi (i:=2) ht2;obtain⟨_,d3,_,hd3,ht3⟩:=each 3 (by omega);obtain rfl:=Option.some.inj hd3;have g3:=Hi (i:=3) ht3;obtain⟨_,d4,_,hd4,ht4⟩:=each 4 (by omega);obtain rfl:=Option.some.inj hd4;have g4:=Hi (i:=4) ht4;obtain⟨_,d5,_,hd5,ht5⟩:=each 5 (by omega);obtain rfl:=Option.some.inj hd5;have g5:=Hi (i:=5) ht5;obtain⟨_,d6,_,hd6,ht6⟩:=each 6 (by omega);obtain rfl:=Option.some.inj hd6;have g6:=Hi (i:=6) ht6;clear each;refine⟨?_,?_,?_,?_,?_,?_,?_,?_,?_,?_,?_,?_,?_,?_⟩
 ·rw[World.var?_cell EE hv 0,<-Array.getElem?_toList];exact g0.1
 ·rw[World.var?_cell EE hv 1,<-Array.getElem?_toList];exact g0.2
 ·rw[World.var?_cell EE hv 2,<-Array.getElem?_toList];exact g1.1
 ·rw[World.var?_cell EE hv 3,<-Array.getElem?_toList];exact g1.2
 ·rw[World.var?_cell EE hv 4,<-Array.getElem?_toList];exact g2.1
 ·rw[World.var?_cell EE hv 5,<-Array.getElem?_toList];exact g2.2
 ·rw[World.var?_cell EE hv 6,<-Array.getElem?_toList];exact g3.1
 ·rw[World.var?_cell EE hv 7,<-Array.getElem?_toList];exact g3.2
 ·rw[World.var?_cell EE hv 8,<-Array.getElem?_toList];exact g4.1
 ·rw[World.var?_cell EE hv 9,<-Array.getElem?_toList];exact g4.2
 ·rw[World.var?_cell EE hv 10,<-Array.getElem?_toList];exact g5.1
 ·rw[World.var?_cell EE hv 11,<-Array.getElem?_toList];exact g5.2
 ·rw[World.var?_cell EE hv 12,<-Array.getElem?_toList];exact g6.1
 ·rw[World.var?_cell EE hv 13,<-Array.getElem?_toList];exact g6.2
theorem MC {W:World} {L:List (String×DataW Unit)} (h:laidMet Tryz.prog L W) (hm:("concordance/word.ends",Rows.laid_concordance_word_ends)∈L):AQ W:=by
 obtain⟨g,t,cs,fuel,p,hg,ht,hv,htr⟩:=Lib.laidMet.reads h hm
 obtain rfl:t=165:=by
  obtain rfl:g=0:=by rw[EE]at hg;exact(Option.some.inj hg).symm
  rw[Yu]at ht;exact(Option.some.inj ht).symm
 exact WJ hv htr
end
end Go.Proofs.YtgfldnaahojnlaaGreatDoor
