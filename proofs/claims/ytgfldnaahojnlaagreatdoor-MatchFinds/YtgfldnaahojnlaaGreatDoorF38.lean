/- MatchFinds: part 38. -/
import Derived.Test.YtgfldnaahojnlaaGreatDoorF37
set_option maxRecDepth 100000
set_option maxHeartbeats 4000000
namespace Go.Proofs.YtgfldnaahojnlaaGreatDoor
section
open Go.RowKit
set_option maxHeartbeats 1000000
theorem Ss (s:ByteArray) (w:World) (hs:s.size<=1000):Calls Tryz.prog 109 #[.string s,.string ⟨#[34]⟩] w fun e w'=>e= .returned (.int .i64 (Lib.indexByte s.data.toList 34))/\w'=w:=by
 by_cases h0:s=⟨#[34]⟩
 ·subst h0
  go_enter Tryz.func109,Tryz.ntmps109;go_wp2;go_ret;exact⟨rfl,rfl⟩
 ·have d1:((34:UInt8)::[] == s.toList)=false:=by
   rw[beq_eq_false_iff_ne];intro e;exact h0 (Dy (by rw[<-ByteArray.toList_eq s,<-e]))
  have d2:(([34]:List UInt8) == s.toList)=false:=d1;clear h0;go_enter Tryz.func109,Tryz.ntmps109
  go_wp2_with (go_at_call 70;refine(QG _ _ _).mono ?_;rintro e w' ⟨rfl,rfl⟩)
  go_ret;exact⟨rfl,rfl⟩
theorem YB (l:List UInt8):(l.takeWhile Cj).length<l.length->Lib.indexByte l 34=((l.takeWhile Cj).length:Int):=by
 induction l with
 |nil=>intro h;simp at h
 |cons c l ih=>
  intro h
  by_cases hc:Cj c=true
  ·rw[List.takeWhile_cons_of_pos hc]at h ⊢
   simp only[List.length_cons]at h ⊢;have e:=ih (by omega);have hne:c≠34:=fun e=>by rw[e]at hc;exact absurd hc (by decide)
   simp only[Lib.indexByte];simp[hne,e]
  ·rw[List.takeWhile_cons_of_neg hc]
   have:c=34:=by
    have:c.toNat=34:=by simpa [Cj]using hc
    exact UInt8.toNat_inj.1 this
   subst this;simp[Lib.indexByte]
set_option maxHeartbeats 2000000
theorem On (s:ByteArray) (n:Nat) (w:World) (hs:s.size<=1000) (hn:Lib.indexByte s.data.toList 34=(n:Int)) (hlt:n<s.size):Calls Tryz.prog 134 #[.string s,.string ⟨#[34]⟩] w fun e w'=>e= .returned (.tuple #[.string (s.extract 0 n),.string (s.extract (n+1) s.size),.bool true])/\∃m,w'=w.drewN m:=by
 have HN:Hid (Lib.indexByte s.data.toList 34=(n:Int)):=hn;clear hn;have c1:(n:Int)<=(s.size:Int):=by omega
 have c2:(n:Int)+1<=(s.size:Int):=by omega
 go_enter Tryz.func134,Tryz.ntmps134
 go_wp2_with (go_at_call 109;refine(Ss _ _ hs).mono ?_;rintro e w' ⟨rfl,rfl⟩;rw[HN.out])
 go_quiet (fail);go_wp2
 go_ret3
 exact⟨rfl,_,rfl⟩
theorem ON (s:ByteArray) (n:Nat) (w:World) (hs:s.size<=1000) (hn:Lib.indexByte s.data.toList 34=(n:Int)) (hlt:n<s.size):Calls Tryz.prog 91 #[.string s,.string ⟨#[34]⟩] w fun e w'=>e= .returned (.tuple #[.string (s.extract 0 n),.string (s.extract (n+1) s.size),.bool true])/\∃m,w'=w.drewN m:=by
 have HN:Hid (Lib.indexByte s.data.toList 34=(n:Int)):=hn;clear hn;go_enter Tryz.func91,Tryz.ntmps91
 go_wp2_with (go_at_call 134;refine(On _ n _ hs HN.out hlt).mono ?_;rintro e w' ⟨rfl,m,rfl⟩)
 go_ret3
 exact⟨rfl,_,rfl⟩
theorem BE (w:World):Calls Tryz.prog 41 #[.bool true] w fun e w'=>e= .returned (.tuple #[])/\w'=w:=by
 go_enter Tryz.func41,Tryz.ntmps41;go_wp2;go_end0;exact⟨rfl,rfl⟩
theorem DM (w:World):Calls Tryz.prog 41 #[.bool false] w fun e w'=>e= .panicked [{v:= .iface 99 (.agg #[.int .i64 3]),recovered:=false}]/\w'=w:=by
 go_enter Tryz.func41,Tryz.ntmps41;go_wp2;exact⟨rfl,rfl,rfl⟩
def BX (x:ByteArray):Bool:=decide (x=D7) || decide (x=tOr) || decide (x=BK) || decide (x=At)
theorem Dc (x:ByteArray) (b:Bool) (hb:BX x=b) (w:World):Calls Tryz.prog 162 #[.string x] w fun e w'=>e= .returned (.bool b)/\w'=w:=by
 have HB:Hid (BX x=b):=hb;clear hb;have d1:=Ff x [65,78,68];have d2:=Ff x [79,82];have d3:=Ff x [78,79,84];have d4:=Ff x [78,69,65,82]
 by_cases h1:x=D7
 ·rw[decide_eq_true (show x=⟨[65,78,68].toArray⟩from h1)]at d1
  have e:b=true:=by rw[<-HB.out];simp[BX,h1]
  subst e;clear d2 d3 d4 h1;go_enter Tryz.func162,Tryz.ntmps162;go_wp2;go_ret;exact⟨rfl,rfl⟩
 rw[decide_eq_false (show ¬x=⟨[65,78,68].toArray⟩from h1)]at d1
 by_cases h2:x=tOr
 ·rw[decide_eq_true (show x=⟨[79,82].toArray⟩from h2)]at d2
  have e:b=true:=by rw[<-HB.out];simp[BX,h2]
  subst e;clear d3 d4 h1 h2;go_enter Tryz.func162,Tryz.ntmps162;go_wp2;go_ret;exact⟨rfl,rfl⟩
 rw[decide_eq_false (show ¬x=⟨[79,82].toArray⟩from h2)]at d2
 by_cases h3:x=BK
 ·rw[decide_eq_true (show x=⟨[78,79,84].toArray⟩from h3)]at d3
  have e:b=true:=by rw[<-HB.out];simp[BX,h3]
  subst e;clear d4 h1 h2 h3;go_enter Tryz.func162,Tryz.ntmps162;go_wp2;go_ret;exact⟨rfl,rfl⟩
 rw[decide_eq_false (show ¬x=⟨[78,79,84].toArray⟩from h3)]at d3
 by_cases h4:x=At
 ·rw[decide_eq_true (show x=⟨[78,69,65,82].toArray⟩from h4)]at d4
  have e:b=true:=by rw[<-HB.out];simp[BX,h4]
  subst e;clear h1 h2 h3 h4;go_enter Tryz.func162,Tryz.ntmps162;go_wp2;go_ret;exact⟨rfl,rfl⟩
 rw[decide_eq_false (show ¬x=⟨[78,69,65,82].toArray⟩from h4)]at d4;have e:b=false:=by rw[<-HB.out];simp[BX,h1,h2,h3,h4]
 subst e;clear h1 h2 h3 h4;go_enter Tryz.func162,Tryz.ntmps162;go_wp2;go_ret;exact⟨rfl,rfl⟩
theorem Jr (k:Int) (t x:ByteArray) (b:Bool) (hb:(decide (k=5) && decide (t=x))=b) (w:World):Calls Tryz.prog 113 #[.agg #[.int .i64 k,.string t],.string x] w fun e w'=>e= .returned (.bool b)/\Below w.heap.size w w':=by
 have HB:Hid ((decide (k=5) && decide (t=x))=b):=hb;clear hb
 by_cases h1:k=5
 ·subst h1
  by_cases h2:t=x
  ·subst h2
   have e:b=true:=by rw[<-HB.out];simp
   subst e;have d2:(t.toList == t.toList)=true:=by simp
   go_enter Tryz.func113,Tryz.ntmps113;go_wp2;go_ret;exact⟨rfl,(Below.refl _ _).alloc (Nat.le_refl _) _⟩
  ·have e:b=false:=by rw[<-HB.out];simp[h2]
   subst e
   have d2:(t.toList == x.toList)=false:=by
    rw[beq_eq_false_iff_ne];intro e;exact h2 (Dy (by rw[<-ByteArray.toList_eq,<-ByteArray.toList_eq,e]))
   clear h2;go_enter Tryz.func113,Tryz.ntmps113;go_wp2;go_ret;exact⟨rfl,(Below.refl _ _).alloc (Nat.le_refl _) _⟩
 ·have e:b=false:=by rw[<-HB.out];simp[h1]
  subst e;have d1:(k == 5)=false:=by simpa using h1
  clear h1;go_enter Tryz.func113,Tryz.ntmps113;go_wp2;go_ret;exact⟨rfl,(Below.refl _ _).alloc (Nat.le_refl _) _⟩
theorem WO:∀n:Fin 256,decide (0<=Lib.indexByte [32,40,41,42,34] n.val.toUInt8)= !Bq n.val.toUInt8:=by decide+kernel
theorem Oa (x:Nat) (hx:x<256) (b:Bool) (hb:Bq x.toUInt8= !b) (w:World):Calls Tryz.prog 38 #[.string ⟨#[32,40,41,42,34]⟩,.int .u8 (x:Int)] w fun e w'=>∃n:Int,e= .returned (.int .i64 n)/\decide (0<=n)=b/\w'=w:=by
 refine(GT ⟨#[32,40,41,42,34]⟩ (x:Int) w).mono ?_;rintro e w' ⟨rfl,rfl⟩;refine⟨_,rfl,?_,rfl⟩;have h:=WO ⟨x,hx⟩;rw[hb,Bool.not_not]at h;exact h
theorem TL (s:ByteArray) (E:Nat) (hE:Cf Bq s 0=E) (w:World) (hs:s.size<=1000):Calls Tryz.prog 111 #[.string s] w fun e w'=>e= .returned (.int .i64 (E:Int))/\w'=w:=by
 have HE:Hid (Cf Bq s 0=E):=hE;clear hE;go_enter Tryz.func111,Tryz.ntmps111;go_wp2;go_loopw [6] (fun i wr=>∃j:Nat,j<=s.size/\i= .int .i64 j/\Hid (Cf Bq s j=E)/\wr=w) (fun i _=>s.size-(intOf i).toNat)
 case atStart=>exact⟨0,Nat.zero_le _,rfl,HE,rfl⟩
 case round=>
  clear HE;obtain⟨j,hj,rfl,hej,rfl⟩:=hrel
  by_cases hjs:j<s.size
  ·have hjs':(j:Int)<(s.size:Int):=by omega
   obtain⟨y,hy⟩:∃y,s[j].toNat=y:=⟨_,rfl⟩;have hyc:s[j]=y.toUInt8:=by rw[<-hy];simp
   obtain⟨b,hb⟩:∃b,Bq y.toUInt8= !b:=⟨!Bq y.toUInt8,by simp⟩;have HIx:Hid (y<256/\Bq y.toUInt8= !b):=⟨by rw[<-hy];exact UInt8.toNat_lt _,hb⟩
   cases b
   ·have HE2:Hid (Cf Bq s (j+1)=E):=by show _=_;rw[<-Er hjs (by rw[hyc];exact hb)];exact hej.out
    clear hej hb hyc;go_wp2_with fail;refine(Oa y HIx.out.1 _ HIx.out.2 _).mono ?_;rintro _ w8 ⟨n8,rfl,hn8,hw8⟩;subst hw8;go_wp2;go_roundw
    case rel=>exact⟨j+1,by omega,by go_num,HE2,trivial⟩
    case measure=>simp[intOf];omega
   ·have e:j=E:=by rw[<-hej.out,IK hjs (by rw[hyc];exact hb)]
    subst e;clear hej hb hyc;go_wp2_with fail;refine(Oa y HIx.out.1 _ HIx.out.2 _).mono ?_;rintro _ w8 ⟨n8,rfl,hn8,hw8⟩;subst hw8;go_wp2;go_ret;exact⟨rfl,rfl⟩
  ·have hjs':¬(j:Int)<(s.size:Int):=by omega
   obtain rfl:j=s.size:=by omega
   have e:s.size=E:=by rw[<-hej.out,Kw (Nat.le_refl _)]
   subst e;clear hej;go_wp2;go_ret;exact⟨rfl,rfl⟩
theorem DC {P:Program} {fn:Func} {p t:Tmp} {ty:TypeId} {v:Value} (h:fn.results= #[.cell p ty,.tmp t]) (tmps:Array Value) (w:World) (a:Addr) (hp:tmps.getD p undef= .pointer (some a)) (hl:(loadVar ty a).run P w= .ok v w):
  (results fn tmps).run P w= .ok (.tuple #[v,tmps.getD t undef]) w:=by
 have hp':tmps[p]?.getD undef= .pointer (some a):=by simpa [Array.getD_eq_getD_getElem?]using hp
 simp[results,h,hp',asAddr,hl]
def YP (w:World) (L:List ByteArray) (e:Ending) (w':World):Prop:=
 ∃t':ByteArray,e= .returned (.tuple #[.agg #[.int .i64 (AJ L).1,.string (AJ L).2],.string t'])/\t'.size<=400/\BP t'.data.toList L.tail/\(∀x∈L.head?,Ei x)/\Below w.heap.size w w'
theorem Ew (u:ByteArray) (n:Nat):(u.extract n u.size).data.toList=u.data.toList.drop n:=by
 rw[Ch,<-AF,List.take_length]
theorem Js {u:ByteArray} (h:0<u.size):u.data.toList=u[0]::u.data.toList.drop 1:=by
 have e:=CZ u 0 h
 rwa [List.drop_zero]at e
theorem Ky {u:ByteArray} {L:List ByteArray} (h:0<u.size) (k:UInt8) (hk:u[0].toNat=k.toNat) (hc:k.toNat=40\/k.toNat=41\/k.toNat=42) (h0:BP u.data.toList L):∃L',L=⟨#[k]⟩::L'/\BP (u.extract 1 u.size).data.toList L':=by
 have e:u[0]=k:=UInt8.toNat_inj.1 hk;rw[Js h,e]at h0;rw[Ew];exact SK hc h0
theorem SL {u:ByteArray} {L:List ByteArray} (h:0<u.size) (hk:u[0].toNat=34) (h0:BP u.data.toList L):∃n r L',Lib.indexByte (u.extract 1 u.size).data.toList 34=((n:Nat):Int)/\n<(u.extract 1 u.size).size/\L=⟨(34::r).toArray⟩::L'/\(u.extract 1 u.size).extract 0 n=⟨r.toArray⟩/\r.length<=u.size/\BP ((u.extract 1 u.size).extract (n+1) (u.extract 1 u.size).size).data.toList L':=by
 have e:u[0]=34:=UInt8.toNat_inj.1 hk;rw[Js h,e]at h0;obtain⟨h1,L',h2,h3⟩:=PK (by rfl) h0;have hs:(u.extract 1 u.size).size=(u.data.toList.drop 1).length:=by rw[<-AF,Ew]
 refine⟨((u.data.toList.drop 1).takeWhile Cj).length,(u.data.toList.drop 1).takeWhile Cj,L',?_,by omega,h2,?_,?_,?_⟩
 ·rw[Ew];exact YB _ h1
 ·apply Dy
  rw[Ch,List.drop_zero,Ew,Ev]
 ·rw[List.length_drop,AF]at h1;omega
 ·rw[Ew,Ew];exact h3
theorem WK {u:ByteArray} {L:List ByteArray} (h:0<u.size) (hk:Bq u[0]=true) (h0:BP u.data.toList L):∃E c r L',Cf Bq u 0=E/\E<=u.size/\L=⟨(c::r).toArray⟩::L'/\u.extract 0 E=⟨(c::r).toArray⟩/\r.length<u.size/\(∀d∈c::r,Bq d=true)/\BP (u.extract E u.size).data.toList L':=by
 rw[Js h]at h0;obtain⟨L',h2,h3⟩:=Vg hk h0;have hE:Cf Bq u 0=0+1+((u.data.toList.drop 1).takeWhile Bq).length:=Er h hk;have hle:=Ik (p:=Bq) (s:=u) (k:=0) (Nat.zero_le _);refine⟨_,u[0],(u.data.toList.drop 1).takeWhile Bq,L',rfl,hle,h2,?_,?_,?_,?_⟩
 ·rw[hE];exact Ig u 0 _ h _ (Ev _ _)
 ·rw[hE]at hle;omega
 ·intro d hd
  rcases List.mem_cons.1 hd with rfl|hd
  ·exact hk
  ·have:=List.all_takeWhile (p:=Bq) (l:=u.data.toList.drop 1)
   rw[List.all_eq_true]at this;exact this d hd
 ·rw[Ew,hE]
  rw[List.drop_drop]at h3;exact h3
theorem Gu (t u:ByteArray) (hu:(⟨(t.data.toList.dropWhile (· == 32)).toArray⟩:ByteArray)=u) (w:World) (hs:t.size<=400):Calls Tryz.prog 110 #[.string t,.string ⟨#[32]⟩] w fun e w'=>e= .returned (.string u)/\w'=w:=by
 rw[<-hu];exact Ty t w (by omega)
theorem VL (t:ByteArray):(⟨(t.data.toList.dropWhile (· == 32)).toArray⟩:ByteArray).size<=t.size:=by
 have h:=(List.dropWhile_sublist (· == 32) (l:=t.data.toList)).length_le;rw[AF]at h;rw[<-AF];exact h
theorem UT {u:ByteArray} (h:0<u.size) (L:List UInt8) (hu:u.data.toList=L.dropWhile (· == 32)):u[0].toNat≠32:=by
 intro e;have e0:u[0]=32:=UInt8.toNat_inj.1 e;have h1:=Js h;rw[e0,hu]at h1;have h2:=List.head?_dropWhile_not (· == 32) L;rw[h1]at h2;simp at h2
set_option maxHeartbeats 4000000
theorem WN (t:ByteArray) (L:List ByteArray) (w:World) (ht:t.size<=400) (hc:BP t.data.toList L):Calls Tryz.prog 76 #[.string t] w fun e w'=>YP w L e w':=by
 obtain⟨u,hu⟩:∃u:ByteArray,(⟨(t.data.toList.dropWhile (· == 32)).toArray⟩:ByteArray)=u:=⟨_,rfl⟩;have hus:u.size<=400:=by rw[<-hu];exact Nat.le_trans (VL t) ht
 have hul:u.data.toList=t.data.toList.dropWhile (· == 32):=by rw[<-hu]
 have HC:Hid (BP u.data.toList L):=by
  show BP _ _;rw[hul];exact SJ hc
 have HT:Hid (⟨(t.data.toList.dropWhile (· == 32)).toArray⟩=u):=hu;clear hc hu
 by_cases h0:u.size=0
 ·have e0:u=⟨#[]⟩:=Dy (by rw[Hq h0])
  have HL:Hid (L=[]):=Vh (by have:=HC.out;rwa [Hq h0]at this);subst e0;clear h0 hul;go_enter Tryz.func76,Tryz.ntmps76
  go_wp2_with (go_at_call 110;refine(Gu t _ HT.out _ ht).mono ?_;rintro e w' ⟨rfl,rfl⟩)
  refine bodyPost_ret (v:= .tuple #[.agg #[.int .i64 0,.string ⟨#[]⟩],.string ⟨#[]⟩]) (DC Tryz.results76 _ _ _ rfl ?_) rfl ?_
  ·simp[go_sem]
  rw[HL.out];exact⟨⟨#[]⟩,rfl,by decide,Ol,(fun x h=>by cases h),(Below.refl _ _).alloc (Nat.le_refl _) _⟩
 ·have h1:0<u.size:=by omega
  have d0:(u.toList == [])=false:=by
   rw[ByteArray.toList_eq,beq_eq_false_iff_ne];intro e;have:=congrArg List.length e;rw[AF]at this;exact h0 this
  have hn32:=UT h1 _ hul;obtain⟨x,hx⟩:∃x,u[0].toNat=x:=⟨_,rfl⟩;clear hul
  by_cases x40:x=40
  ·obtain⟨L',hL,hC⟩:=Ky h1 40 (by rw[hx,x40];rfl) (by decide) HC.out
   have HL:Hid (L=B9::L'/\BP (u.extract 1 u.size).data.toList L'):=⟨hL,hC⟩;have j1:((x:Int) == 40)=true:=by simp;omega
   clear hL hC HC hn32 x40;go_enter Tryz.func76,Tryz.ntmps76
   go_wp2_with (go_at_call 110;refine(Gu t _ HT.out _ ht).mono ?_;rintro e w' ⟨rfl,rfl⟩)
   go_region
   go_wp2;refine bodyPost_ret (v:= .tuple #[.agg #[.int .i64 1,.string ⟨#[]⟩],.string (u.extract 1 u.size)]) (DC Tryz.results76 _ _ _ rfl ?_) rfl ?_
   ·simp[go_sem]
   rw[HL.out.1];exact⟨u.extract 1 u.size,rfl,by simp;omega,HL.out.2,(fun x h=>by cases h;exact .opens),((Below.refl _ _).alloc (Nat.le_refl _) _).drew⟩
  by_cases x41:x=41
  ·obtain⟨L',hL,hC⟩:=Ky h1 41 (by rw[hx,x41];rfl) (by decide) HC.out
   have HL:Hid (L=AA::L'/\BP (u.extract 1 u.size).data.toList L'):=⟨hL,hC⟩;have j1:((x:Int) == 40)=false:=by simp;omega
   have j2:((x:Int) == 41)=true:=by simp;omega
   clear hL hC HC hn32 x41;go_enter Tryz.func76,Tryz.ntmps76
   go_wp2_with (go_at_call 110;refine(Gu t _ HT.out _ ht).mono ?_;rintro e w' ⟨rfl,rfl⟩)
   go_region
   go_wp2;refine bodyPost_ret (v:= .tuple #[.agg #[.int .i64 2,.string ⟨#[]⟩],.string (u.extract 1 u.size)]) (DC Tryz.results76 _ _ _ rfl ?_) rfl ?_
   ·simp[go_sem]
   rw[HL.out.1];exact⟨u.extract 1 u.size,rfl,by simp;omega,HL.out.2,(fun x h=>by cases h;exact .shuts),((Below.refl _ _).alloc (Nat.le_refl _) _).drew⟩
  by_cases x42:x=42
  ·obtain⟨L',hL,hC⟩:=Ky h1 42 (by rw[hx,x42];rfl) (by decide) HC.out
   have HL:Hid (L=Ao::L'/\BP (u.extract 1 u.size).data.toList L'):=⟨hL,hC⟩;have j1:((x:Int) == 40)=false:=by simp;omega
   have j2:((x:Int) == 41)=false:=by simp;omega
   have j3:((x:Int) == 42)=true:=by simp;omega
   clear hL hC HC hn32 x42;go_enter Tryz.func76,Tryz.ntmps76
   go_wp2_with (go_at_call 110;refine(Gu t _ HT.out _ ht).mono ?_;rintro e w' ⟨rfl,rfl⟩)
   go_region
   go_wp2;refine bodyPost_ret (v:= .tuple #[.agg #[.int .i64 3,.string ⟨#[]⟩],.string (u.extract 1 u.size)]) (DC Tryz.results76 _ _ _ rfl ?_) rfl ?_
   ·simp[go_sem]
   rw[HL.out.1];exact⟨u.extract 1 u.size,rfl,by simp;omega,HL.out.2,(fun x h=>by cases h;exact .star),((Below.refl _ _).alloc (Nat.le_refl _) _).drew⟩
  have j1:((x:Int) == 40)=false:=by simp;omega
  have j2:((x:Int) == 41)=false:=by simp;omega
  have j3:((x:Int) == 42)=false:=by simp;omega
  by_cases x34:x=34
  ·obtain⟨n,r,L',q1,q2,hL,q3,q4,hC⟩:=SL h1 (by rw[hx,x34]) HC.out
   have HL:Hid (L=⟨(34::r).toArray⟩::L'/\BP ((u.extract 1 u.size).extract (n+1) (u.extract 1 u.size).size).data.toList L'):=⟨hL,hC⟩;have HQ:Hid (Lib.indexByte (u.extract 1 u.size).data.toList 34=((n:Nat):Int)/\(u.extract 1 u.size).extract 0 n=⟨r.toArray⟩):=⟨q1,q3⟩;have j4:((x:Int) == 34)=true:=by simp;omega
   have hu1:(u.extract 1 u.size).size<=400:=by simp;omega
   have HB:Hid (r.length<=400):=Nat.le_trans q4 hus;clear hL hC HC hn32 x34 q1 q3 q4 x40 x41 x42;go_enter Tryz.func76,Tryz.ntmps76
   go_wp2_with first|(go_at_call 110;refine(Gu t _ HT.out _ ht).mono ?_;rintro e w' ⟨rfl,rfl⟩)|(go_at_call 91;refine(ON _ n _ (by omega) HQ.out.1 q2).mono ?_;rintro e w' ⟨rfl,m,rfl⟩;rw[HQ.out.2])
   have e1:(u.extract 1 u.size).size=u.size-1:=by simp
   refine bodyPost_ret (v:= .tuple #[.agg #[.int .i64 4,.string ⟨r.toArray⟩],.string ((u.extract 1 u.size).extract (n+1) (u.size-1))]) (DC Tryz.results76 _ _ _ rfl ?_) rfl ?_
   ·simp[go_sem]
   have h2:=HL.out.2;rw[e1]at h2;rw[HL.out.1];refine⟨(u.extract 1 u.size).extract (n+1) (u.size-1),?_,by simp;omega,h2,(fun x h=>by cases h;exact .quoted r HB.out),((below_drewN ((Below.refl _ _).alloc (Nat.le_refl _) _) m).setCell (Nat.le_refl _) _).setCell (Nat.le_refl _) _⟩;rw[AJ,C8]
  ·have hc0:Bq u[0]=true:=Mt hn32 (by rw[hx];omega) (by rw[hx];exact x34)
   obtain⟨E,c,r,L',q1,q2,hL,q3,q4,q5,hC⟩:=WK h1 hc0 HC.out;have HL:Hid (L=⟨(c::r).toArray⟩::L'/\BP (u.extract E u.size).data.toList L'/\u.extract 0 E=⟨(c::r).toArray⟩):=⟨hL,hC,q3⟩;have HQ:Hid (Cf Bq u 0=E/\r.length<400/\∀d∈c::r,Bq d=true):=⟨q1,Nat.lt_of_lt_of_le q4 hus,q5⟩;have j4:((x:Int) == 34)=false:=by simp;omega
   have c1:(E:Int)<=(u.size:Int):=by omega
   clear hL hC HC hn32 x34 q1 q3 q4 q5 x40 x41 x42 hc0;go_enter Tryz.func76,Tryz.ntmps76
   go_wp2_with first|(go_at_call 110;refine(Gu t _ HT.out _ ht).mono ?_;rintro e w' ⟨rfl,rfl⟩)|(go_at_call 111;refine(TL _ E HQ.out.1 _ (by omega)).mono ?_;rintro e w' ⟨rfl,rfl⟩)
   go_region
   go_wp2;refine bodyPost_ret (v:= .tuple #[.agg #[.int .i64 5,.string (u.extract 0 E)],.string (u.extract E u.size)]) (DC Tryz.results76 _ _ _ rfl ?_) rfl ?_
   ·simp[go_sem]
   rw[HL.out.1];refine⟨u.extract E u.size,?_,by simp;omega,HL.out.2.1,(fun x h=>by cases h;exact .run c r HQ.out.2.1 HQ.out.2.2),((Below.refl _ _).alloc (Nat.le_refl _) _).drew⟩;rw[AJ,Gb (HQ.out.2.2 c (by simp)),HL.out.2.2]
def Rd0 (A:Nat) (k:Int) (x:ByteArray) (L:List ByteArray) (w:World):Prop:=
 (w.cell? ⟨A,0,none⟩=some (.int .i64 k)/\w.cell? ⟨A,1,none⟩=some (.string x)/\∃t:ByteArray,w.cell? ⟨A,2,none⟩=some (.string t)/\t.size<=400/\BP t.data.toList L)/\(w.frozen? ⟨A,0,none⟩=false/\w.frozen? ⟨A,1,none⟩=false/\w.frozen? ⟨A,2,none⟩=false)/\A<w.heap.size/\0<A/\AQ w
def Rd (A:Nat) (l:List ByteArray) (w:World):Prop:=Rd0 A (AJ l).1 (AJ l).2 l.tail w/\∀x∈l.head?,Ei x
theorem AQ.grown {w w':World} {A:Nat} (h:AQ w) (hg:w.grownBy w' (some A)) (hA:0<A):AQ w':=by
 have hlt:0<w.heap.size:=by
  have:=h.1
  by_cases hh:0<w.heap.size
  ·exact hh
  ·rw[World.cell?]at this
   simp[Array.getElem?_eq_none (Nat.le_of_not_lt hh)]at this
 have key:∀o,w'.cell? ⟨0,o,none⟩=w.cell? ⟨0,o,none⟩:=fun o=>World.cell?_of_block (w:=w) (a:=⟨0,o,none⟩) (hg.block 0 hlt (fun e=>by cases e;omega));unfold AQ at *;simp only[key];exact h
theorem Rd0.below {A:Nat} {k:Int} {x:ByteArray} {L:List ByteArray} {w w':World} (h:Rd0 A k x L w) (hb:Below w.heap.size w w'):Rd0 A k x L w':=by
 obtain⟨⟨h1,h2,t,h3,h4,h5⟩,⟨f1,f2,f3⟩,hA,hE,he⟩:=h;have hs:=hb.size;have fr:∀o,w'.frozen? ⟨A,o,none⟩=w.frozen? ⟨A,o,none⟩:=fun o=>World.frozen?_of_block (w:=w) (a:=⟨A,o,none⟩) (hb.block A hA);exact⟨⟨by rw[hb.cell (p:=⟨A,_,none⟩) hA];exact h1,by rw[hb.cell (p:=⟨A,_,none⟩) hA];exact h2,t,by rw[hb.cell (p:=⟨A,_,none⟩) hA];exact h3,h4,h5⟩,⟨by rw[fr];exact f1,by rw[fr];exact f2,by rw[fr];exact f3⟩,by omega,hE,he.below hb⟩
theorem Rd.below {A:Nat} {l:List ByteArray} {w w':World} (h:Rd A l w) (hb:Below w.heap.size w w'):Rd A l w':=⟨h.1.below hb,h.2⟩
theorem Rd0.set {A:Nat} {k k':Int} {x x':ByteArray} {L L':List ByteArray} {w:World} (h:Rd0 A k x L w) (t:ByteArray) (ht:t.size<=400) (hc:BP t.data.toList L'):
  Rd0 A k' x' L' (((w.setCell ⟨A,0,none⟩ (.int .i64 k')).setCell ⟨A,1,none⟩ (.string x')).setCell ⟨A,2,none⟩ (.string t))/\w.grownBy (((w.setCell ⟨A,0,none⟩ (.int .i64 k')).setCell ⟨A,1,none⟩ (.string x')).setCell ⟨A,2,none⟩ (.string t)) (some A):=by
 obtain⟨⟨h1,h2,t0,h3,h4,h5⟩,⟨f1,f2,f3⟩,hA,hE,he⟩:=h;have g:=((DF w A 0 (.int .i64 k')).trans (DF _ A 1 (.string x'))).trans (DF _ A 2 (.string t));refine⟨⟨⟨?_,?_,t,?_,ht,hc⟩,⟨?_,?_,?_⟩,?_,hE,he.grown g hE⟩,g⟩
 ·rw[World.cell?_setCell_other _ _ _ _ (fun e=>by cases e),World.cell?_setCell_other _ _ _ _ (fun e=>by cases e)]
  exact World.cell?_setCell_same _ _ _ h1
 ·rw[World.cell?_setCell_other _ _ _ _ (fun e=>by cases e)]
  exact World.cell?_setCell_same _ _ _ (by rw[World.cell?_setCell_other _ _ _ _ (fun e=>by cases e)];exact h2)
 ·exact World.cell?_setCell_same _ _ _ (by rw[World.cell?_setCell_other _ _ _ _ (fun e=>by cases e),World.cell?_setCell_other _ _ _ _ (fun e=>by cases e)];exact h3)
 ·rw[World.frozen?_setCell,World.frozen?_setCell,World.frozen?_setCell];exact f1
 ·rw[World.frozen?_setCell,World.frozen?_setCell,World.frozen?_setCell];exact f2
 ·rw[World.frozen?_setCell,World.frozen?_setCell,World.frozen?_setCell];exact f3
 ·simpa [World.setCell]using hA
theorem Rd0.other {A:Nat} {k:Int} {x:ByteArray} {L:List ByteArray} {w:World} (h:Rd0 A k x L w) (b o:Nat) (v:Value) (hb:b≠A) (hb2:b≠0):Rd0 A k x L (w.setCell ⟨b,o,none⟩ v):=by
 obtain⟨⟨h1,h2,t,h3,h4,h5⟩,⟨f1,f2,f3⟩,hA,hE,he⟩:=h;have key:∀i,(w.setCell ⟨b,o,none⟩ v).cell? ⟨A,i,none⟩=w.cell? ⟨A,i,none⟩:=fun i=>World.cell?_of_block (w:=w) (a:=⟨A,i,none⟩) (Below.heap_setCell w ⟨b,o,none⟩ v A (fun e=>hb (by simpa using e.symm)));have keyE:∀i,(w.setCell ⟨b,o,none⟩ v).cell? ⟨0,i,none⟩=w.cell? ⟨0,i,none⟩:=fun i=>World.cell?_of_block (w:=w) (a:=⟨0,i,none⟩) (Below.heap_setCell w ⟨b,o,none⟩ v 0 (fun e=>hb2 (by simpa using e.symm)));refine⟨⟨by rw[key];exact h1,by rw[key];exact h2,t,by rw[key];exact h3,h4,h5⟩,⟨?_,?_,?_⟩,by simpa [World.setCell]using hA,hE,?_⟩
 ·rw[World.frozen?_setCell];exact f1
 ·rw[World.frozen?_setCell];exact f2
 ·rw[World.frozen?_setCell];exact f3
 ·unfold AQ at *
  simp only[keyE];exact he
theorem LB {w w':World} {A:Nat} (h:w.grownBy w' (some A)) {b:Nat} (hb:w.heap.size<=b) (o:Nat) (v:Value):w.grownBy (w'.setCell ⟨b,o,none⟩ v) (some A):=
 ⟨h.os,h.tape,h.output,by have:=h.size;simpa [World.setCell]using this,fun k hk hne=>(Below.heap_setCell w' ⟨b,o,none⟩ v k (fun e=>by simp only at e;omega)).trans (h.block k hk hne)⟩
theorem Rz {P:Program} {fn:Func} {p:Tmp} {ty:TypeId} {v:Value} (h:fn.results= #[.cell p ty]) (tmps:Array Value) (w:World) (a:Addr) (hp:tmps.getD p undef= .pointer (some a)) (hl:(loadVar ty a).run P w= .ok v w):
  (results fn tmps).run P w= .ok v w:=by
 have hp':tmps[p]?.getD undef= .pointer (some a):=by simpa [Array.getD_eq_getD_getElem?]using hp
 simp[results,h,hp',asAddr,hl]
theorem Le (A:Nat) (k:Int) (x:ByteArray) (L:List ByteArray) (w:World) (h:Rd0 A k x L w):Calls Tryz.prog 43 #[.pointer (some ⟨A,0,none⟩)] w fun e w'=>e= .returned (.agg #[.int .i64 k,.string x])/\Rd A L w'/\w.grownBy w' (some A):=by
 have H:Hid (Rd0 A k x L w):=h;obtain⟨⟨h1,h2,t,h3,h4,h5⟩,⟨f1,f2,f3⟩,hA,hE,he⟩:=h;have HC:Hid (BP t.data.toList L):=h5;clear h5 he;go_enter Tryz.func43,Tryz.ntmps43;go_wp2_with fail;refine(WN t L _ h4 HC.out).mono ?_;rintro _ w1 ⟨t1,rfl,ht1,hc1,hg1,hb1⟩;have hs1:=hb1.size;simp only[World.size_alloc]at hs1;have HBw:Hid (Below w.heap.size w w1):=(((Below.refl w.heap.size w).alloc (Nat.le_refl _) _).alloc (by simp) _).trans (hb1.mono (by simp;omega));have H1:Hid (Rd0 A k x L w1):=H.out.below HBw.out;have H2:Hid (t1.size<=400/\BP t1.data.toList L.tail/\∀x∈L.head?,Ei x):=⟨ht1,hc1,hg1⟩;have p0:w1.cell? ⟨w.heap.size+1,0,none⟩=some (.int .i64 k):=by rw[hb1.cell (p:=⟨w.heap.size+1,0,none⟩) (by simp)];simp[go_sem]
 have p1:w1.cell? ⟨w.heap.size+1,1,none⟩=some (.string x):=by rw[hb1.cell (p:=⟨w.heap.size+1,1,none⟩) (by simp)];simp[go_sem]
 have r0:w1.cell? ⟨w.heap.size,0,none⟩=some (.int .i64 0):=by rw[hb1.cell (p:=⟨w.heap.size,0,none⟩) (by simp;omega)];simp[go_sem]
 have r1:w1.cell? ⟨w.heap.size,1,none⟩=some (.string ⟨#[]⟩):=by rw[hb1.cell (p:=⟨w.heap.size,1,none⟩) (by simp;omega)];simp[go_sem]
 have z0:w1.frozen? ⟨w.heap.size,0,none⟩=false:=by rw[World.frozen?_of_block (a:=⟨w.heap.size,0,none⟩) (hb1.block w.heap.size (by simp;omega))];simp[go_sem]
 have z1:w1.frozen? ⟨w.heap.size,1,none⟩=false:=by rw[World.frozen?_of_block (a:=⟨w.heap.size,1,none⟩) (hb1.block w.heap.size (by simp;omega))];simp[go_sem]
 obtain⟨⟨k1,k2,_,k3,_,_⟩,⟨q1,q2,q3⟩,_,_,_⟩:=H1.out;have hAn:¬A=w.heap.size:=by omega
 have hAn':¬A=w.heap.size+1:=by omega
 clear ht1 hc1 hg1 hb1 h1 h2 h3 f1 f2 f3;go_wp2;refine bodyPost_ret (v:= .agg #[.int .i64 k,.string x]) (Rz Tryz.results43 _ _ _ rfl ?_) rfl ?_
 ·simp[go_sem,r0,r1]
 have S:=Rd0.set (k':=(AJ L).1) (x':=(AJ L).2) (L':=L.tail) H1.out t1 H2.out.1 H2.out.2.1;refine⟨rfl,⟨(S.1.other _ _ _ (by omega) (by omega)).other _ _ _ (by omega) (by omega),H2.out.2.2⟩,?_⟩;exact LB (LB ((Ac HBw.out _).trans S.2) (Nat.le_refl _) _ _) (Nat.le_refl _) _ _
theorem Nb (A:Nat) (l:List ByteArray) (w:World) (h:Rd A l w):Calls Tryz.prog 43 #[.pointer (some ⟨A,0,none⟩)] w fun e w'=>e= .returned (.agg #[.int .i64 (AJ l).1,.string (AJ l).2])/\Rd A l.tail w'/\w.grownBy w' (some A):=Le A _ _ _ w h.1
theorem QL {l:List ByteArray} (hg:∀x∈l.head?,Ei x) {x:ByteArray} (hx:DU x=(5,x)) (hn:x≠Ax):(decide ((AJ l).1=5) && decide ((AJ l).2=x))=decide ((⟨l,0⟩:Rst).peek=x):=by
 cases l with
 |nil=>
  have:¬(⟨[],0⟩:Rst).peek=x:=fun e=>hn e.symm;rw[decide_eq_false this];rfl
 |cons y r=>
  have hp:(⟨y::r,0⟩:Rst).peek=y:=rfl;rw[hp];have hy:Ei y:=hg y rfl
  have key:∀k t,k≠(5:Int)->DU y=(k,t)->(decide ((AJ (y::r)).1=5) && decide ((AJ (y::r)).2=x))=decide (y=x):=by
   intro k t hk e
   have:¬y=x:=fun e'=>by
    rw[e',hx]at e;exact hk (congrArg Prod.fst e).symm
   rw[decide_eq_false this,AJ,e,decide_eq_false (show ¬(k,t).1=5 from hk)];rfl
  cases hy with
  |opens=>exact key 1 _ (by decide) rfl
  |shuts=>exact key 2 _ (by decide) rfl
  |star=>exact key 3 _ (by decide) rfl
  |quoted r' _=>exact key 4 _ (by decide) (C8 r')
  |run c r' _ h=>
   rw[AJ,Gb (h c (by simp))];simp
theorem QE:DU tOr=(5,tOr):=by decide
theorem NY:DU D7=(5,D7):=by decide
theorem Kl:DU BK=(5,BK):=by decide
theorem G9:DU At=(5,At):=by decide
set_option maxHeartbeats 2000000
theorem Fi (A:Nat) (l:List ByteArray) (x:ByteArray) (w:World) (h:Rd A l w) (hx:DU x=(5,x)) (hn:x≠Ax) (hp:(⟨l,0⟩:Rst).peek≠x):Calls Tryz.prog 78 #[.pointer (some ⟨A,0,none⟩),.string x] w fun e w'=>e= .returned (.bool false)/\Rd A l w'/\w.grownBy w' (some A):=by
 have H:Hid (Rd A l w):=h
 have HB:Hid ((decide ((AJ l).1=5) && decide ((AJ l).2=x))=false):=by
  show _=_;rw[QL h.2 hx hn,decide_eq_false hp]
 obtain⟨⟨⟨h1,h2,_⟩,_⟩,_⟩:=h;clear hx hn hp;go_enter Tryz.func78,Tryz.ntmps78;go_wp2_with fail;refine(Jr _ _ x _ HB.out w).mono ?_;rintro _ w1 ⟨rfl,hb1⟩;have H1:Hid (Rd A l w1/\w.grownBy w1 (some A)):=⟨H.out.below hb1,Ac hb1 _⟩;clear hb1 h1 h2;go_wp2;go_ret;exact⟨rfl,H1.out.1,H1.out.2⟩
theorem En (A:Nat) (l:List ByteArray) (x:ByteArray) (w:World) (h:Rd A l w) (hx:DU x=(5,x)) (hn:x≠Ax) (hp:(⟨l,0⟩:Rst).peek=x):Calls Tryz.prog 78 #[.pointer (some ⟨A,0,none⟩),.string x] w fun e w'=>e= .returned (.bool true)/\Rd A l.tail w'/\w.grownBy w' (some A):=by
 have H:Hid (Rd A l w):=h
 have HB:Hid ((decide ((AJ l).1=5) && decide ((AJ l).2=x))=true):=by
  show _=_;rw[QL h.2 hx hn,decide_eq_true hp]
 obtain⟨⟨⟨h1,h2,_⟩,_⟩,_⟩:=h;clear hx hn hp;go_enter Tryz.func78,Tryz.ntmps78;go_wp2_with fail;refine(Jr _ _ x _ HB.out w).mono ?_;rintro _ w1 ⟨rfl,hb1⟩;have H1:Hid (Rd A l w1/\w.grownBy w1 (some A)):=⟨H.out.below hb1,Ac hb1 _⟩;clear hb1 h1 h2;go_wp2_with fail;refine(Nb A l w1 H1.out.1).mono ?_;rintro _ w2 ⟨rfl,hr2,hg2⟩;have H2:Hid (Rd A l.tail w2/\w.grownBy w2 (some A)):=⟨hr2,H1.out.2.trans hg2⟩;clear hr2 hg2 H1;go_wp2;go_ret;exact⟨rfl,H2.out.1,H2.out.2⟩
theorem E4 (x y:ByteArray) (w:World) (hx:x.size<=1000) (he:AQ w) (hw:Ad x.data.toList=[y]):Calls Tryz.prog 164 #[.string x] w fun e w'=>e= .returned (.string y)/\Below w.heap.size w w':=by
 have HW:Hid (Ad x.data.toList=[y]):=hw;have HE:Hid (AQ w):=he;clear hw he;go_enter Tryz.func164,Tryz.ntmps164;go_wp2_with fail;refine(Gx x w (by omega) HE.out).mono ?_;rintro _ w1 ⟨v1,rfl,ho1,hb1⟩;rw[HW.out]at ho1;have HB1:Hid (Below w.heap.size w w1):=hb1;rcases ho1.2 with⟨_,h0⟩|⟨g,cap,cur,rfl,_⟩
 ·cases h0
 have hc:=ho1.cells (g:=g) rfl 0 (.string y) (by simp[sc]);rw[Go.WideShapes.add_plain]at hc;simp only[Nat.add_zero]at hc;clear ho1 hb1
 go_wp2_with (go_at_call 41;refine(BE _).mono ?_;rintro _ _ ⟨rfl,rfl⟩)
 go_ret;exact⟨rfl,HB1.out⟩
theorem JP (x:ByteArray) (w:World) (hx:x.size<=1000) (he:AQ w) (hw:(Ad x.data.toList).length≠1):Calls Tryz.prog 164 #[.string x] w fun e w'=>e= .panicked [{v:= .iface 99 (.agg #[.int .i64 3]),recovered:=false}]/\Below w.heap.size w w':=by
 obtain⟨ws,hws⟩:∃ws,Ad x.data.toList=ws:=⟨_,rfl⟩;rw[hws]at hw;have HW:Hid (Ad x.data.toList=ws):=hws;have hwl:ws.length<=1001:=by rw[<-hws];have:=CK x.data.toList;rw[AF]at this;omega
 have HE:Hid (AQ w):=he;clear hws he;go_enter Tryz.func164,Tryz.ntmps164;go_wp2_with fail;refine(Gx x w (by omega) HE.out).mono ?_;rintro _ w1 ⟨v1,rfl,ho1,hb1⟩;rw[HW.out]at ho1;have HB1:Hid (Below w.heap.size w w1):=hb1
 obtain⟨a,cap,rfl⟩:∃a cap,v1= .slice a ws.length cap:=by
  rcases ho1.2 with⟨rfl,h0⟩|⟨g,cap,cur,rfl,_⟩
  ·exact⟨none,0,by rw[h0]⟩
  ·exact⟨_,cap,rfl⟩
 clear ho1 hb1;obtain⟨n,hn⟩:∃n,ws.length=n:=⟨_,rfl⟩;rw[hn]at hw hwl ⊢;have d1:((n:Int) == 1)=false:=by simp;omega
 go_wp2_with (go_at_call 41;refine(DM _).mono ?_;rintro _ _ ⟨rfl,rfl⟩)
 exact⟨rfl,rfl,HB1.out⟩
def Qb (x:ByteArray):Bool:=decide (x.size<=12) && (Aw x.data.toList).all EI
theorem KE {x:ByteArray} (l:List UInt8):∀s:Rst,s.bad≠0->s.begins x l=s:=by
 induction l with
 |nil=>intro s _;rfl
 |cons c l ih=>
  intro s h
  have e:(if !EI c || decide (12<x.size)then s.fails 3 else s)=s:=by
   rw[show s.fails 3=s by rw[Rst.fails,if_neg h]];split<;>rfl
  rw[Rst.begins,e,ih s h]
theorem SX {x:ByteArray} (hx:x.size<=12) (l:List UInt8) (r:List ByteArray):(⟨r,0⟩:Rst).begins x l=if l.all EI=true then⟨r,0⟩else⟨r,3⟩:=by
 induction l with
 |nil=>rfl
 |cons c l ih=>
  rw[Rst.begins,decide_eq_false (by omega:¬12<x.size),Bool.or_false,List.all_cons]
  cases hc:EI c with
  |true=>rw[Bool.true_and,if_neg (by decide)];exact ih
  |false=>
   rw[Bool.false_and,if_pos (by decide),if_neg (by decide)];exact KE l _ (by show(3:Int)≠0;decide)
theorem Ta (x:ByteArray) (r:List ByteArray):(⟨r,0⟩:Rst).begins x (Aw x.data.toList)=if Qb x=true then⟨r,0⟩else⟨r,3⟩:=by
 unfold Qb
 by_cases hx:x.size<=12
 ·rw[SX hx,decide_eq_true hx,Bool.true_and]
 ·rw[decide_eq_false hx,Bool.false_and,if_neg (by decide)]
  have hl:=D8 x
  cases hs:Aw x.data.toList with
  |nil=>rw[hs]at hl;simp at hl;omega
  |cons c l=>
   rw[Rst.begins,decide_eq_true (by omega:12<x.size),Bool.or_true,if_pos rfl];exact KE l _ (by show(3:Int)≠0;decide)
theorem O8 (x:ByteArray) (w:World) (hx:12<x.size):Calls Tryz.prog 163 #[.string x] w fun e w'=>e= .panicked [{v:= .iface 99 (.agg #[.int .i64 3]),recovered:=false}]/\Below w.heap.size w w':=by
 have d1:decide ((x.size:Int)<=12)=false:=decide_eq_false (by omega);go_enter Tryz.func163,Tryz.ntmps163
 go_wp2_with (go_at_call 41;refine(DM _).mono ?_;rintro _ _ ⟨rfl,rfl⟩)
 exact⟨rfl,rfl,Below.refl _ _⟩
set_option maxHeartbeats 4000000
theorem MN (x:ByteArray) (w:World) (hx:x.size<=12) (b:Bool) (hb:(Aw x.data.toList).all EI=b):Calls Tryz.prog 163 #[.string x] w fun e w'=>(b=true/\e= .returned (.string (A6 x))\/b=false/\e= .panicked [{v:= .iface 99 (.agg #[.int .i64 3]),recovered:=false}])/\Below w.heap.size w w':=by
 have d1:decide ((x.size:Int)<=12)=true:=decide_eq_true (by omega);obtain⟨s,hs⟩:∃s,A6 x=s:=⟨_,rfl⟩;have hsz:s.size<=12:=by rw[<-hs,Dk];exact hx
 have HS:Hid (A6 x=s):=hs
 have HB:Hid ((s.data.toList.drop 0).all EI=b):=by
  show _=_;rw[<-hs,<-hb];rfl
 rw[hs];clear hs hb;go_enter Tryz.func163,Tryz.ntmps163
 go_wp2_with (go_at_call 41;refine(BE _).mono ?_;rintro _ w0 ⟨rfl,hw0⟩;obtain rfl:w=w0:=hw0.symm)
 refine(Lh x w (by omega)).mono ?_;rintro _ w1 ⟨rfl,hb1⟩;rw[HS.out];have HB1:Hid (Below w.heap.size w w1):=hb1;clear hb1 d1;go_wp2;go_loopw [13] (fun i wr=>∃j:Nat,j<=s.size/\i= .int .i64 j/\Hid ((s.data.toList.drop j).all EI=b)/\wr=w1) (fun i _=>s.size-(intOf i).toNat)
 case atStart=>exact⟨0,Nat.zero_le _,rfl,HB,rfl⟩
 case round=>
  clear HB;obtain⟨j,hj,rfl,hej,rfl⟩:=hrel
  by_cases hjs:j<s.size
  ·have hjs':(j:Int)<(s.size:Int):=by omega
   obtain⟨y,hy⟩:∃y,s[j].toNat=y:=⟨_,rfl⟩;obtain⟨a,ha⟩:∃a,EI s[j]=a:=⟨_,rfl⟩
   have HJ:Hid ((a && (s.data.toList.drop (j+1)).all EI)=b):=by
    show _=_;rw[<-hej.out,CZ s j hjs,List.all_cons,ha]
   obtain⟨a3,e3⟩:∃b,decide ((97:Int)<=(y:Int))=b:=⟨_,rfl⟩;obtain⟨a4,e4⟩:∃b,decide ((y:Int)<=122)=b:=⟨_,rfl⟩;obtain⟨a5,e5⟩:∃b,decide ((48:Int)<=(y:Int))=b:=⟨_,rfl⟩;obtain⟨a6,e6⟩:∃b,decide ((y:Int)<=57)=b:=⟨_,rfl⟩
   have HA:Hid (a=(a3 && a4 || a5 && a6)):=by
    show _=_;rw[<-ha,<-e3,<-e4,<-e5,<-e6,EI,hy,Bool.eq_iff_iff];simp;omega
   clear ha hej
   cases a3<;>cases a4<;>cases a5<;>cases a6<;>first
    |(exfalso;simp only[decide_eq_true_eq,decide_eq_false_iff_not]at e3 e4 e5 e6;clear HA HJ;omega)
    |(have e:a=true:=HA.out
      have HE2:Hid ((s.data.toList.drop (j+1)).all EI=b):=by
       have h:=HJ.out;rw[e,Bool.true_and]at h;exact h
      clear HJ HA e
      go_wp2_with (go_at_call 41;refine(BE _).mono ?_;rintro _ _ ⟨rfl,rfl⟩)
      go_roundw
      case rel=>exact⟨j+1,by omega,by go_num,HE2,trivial⟩
      case measure=>simp[intOf];omega)
    |(have e:a=false:=HA.out
      have HE2:Hid (b=false):=by
       have h:=HJ.out;rw[e,Bool.false_and]at h;exact h.symm
      clear HJ HA e
      go_wp2_with (go_at_call 41;refine(DM _).mono ?_;rintro _ _ ⟨rfl,rfl⟩)
      exact⟨rfl,.inr ⟨HE2.out,rfl⟩,HB1.out⟩)
  ·have hjs':¬(j:Int)<(s.size:Int):=by omega
   have HE2:Hid (b=true):=by
    show _=_;rw[<-hej.out,List.drop_eq_nil_of_le (by rw[AF];omega)];rfl
   clear hej;go_wp2;go_ret;exact⟨.inl ⟨HE2.out,rfl⟩,HB1.out⟩
theorem WX (x:ByteArray) (w:World):Calls Tryz.prog 163 #[.string x] w fun e w'=>(Qb x=true/\e= .returned (.string (A6 x))\/Qb x=false/\e= .panicked [{v:= .iface 99 (.agg #[.int .i64 3]),recovered:=false}])/\Below w.heap.size w w':=by
 unfold Qb
 by_cases hx:x.size<=12
 ·rw[decide_eq_true hx,Bool.true_and]
  exact MN x w hx _ rfl
 ·rw[decide_eq_false hx]
  refine(O8 x w (by omega)).mono ?_;rintro e w' ⟨rfl,hb⟩;exact⟨.inr ⟨rfl,rfl⟩,hb⟩
def MQ (A:Nat) (w:World):Option Addr->Qy->Prop
 |p,.nil=>p=none
 |p,.node k ws a b=>∃B vw pa pb,p=some ⟨B,0,none⟩/\(A<B/\B<w.heap.size)/\(w.cell? ⟨B,0,none⟩=some (.int .i64 k)/\w.cell? ⟨B,1,none⟩=some vw/\w.cell? ⟨B,2,none⟩=some (.int .i64 (LD k))/\w.cell? ⟨B,3,none⟩=some (.pointer pa)/\w.cell? ⟨B,4,none⟩=some (.pointer pb))/\GI A w vw ws/\MQ A w pa a/\MQ A w pb b
theorem MQ.grown {A:Nat} {w w':World} (hg:w.grownBy w' (some A)) (q:Qy):∀ {p:Option Addr},MQ A w p q->MQ A w' p q:=by
 induction q with
 |nil=>intro p h;exact h
 |node k ws a b ha hb=>
  intro p h;obtain⟨B,vw,pa,pb,e,⟨h1,h2⟩,⟨c0,c1,c2,c3,c4⟩,hr,qa,qb⟩:=h;have key:∀o,w'.cell? ⟨B,o,none⟩=w.cell? ⟨B,o,none⟩:=fun o=>World.cell?_of_block (w:=w) (a:=⟨B,o,none⟩) (hg.block B h2 (fun e=>by cases e;omega));exact⟨B,vw,pa,pb,e,⟨h1,Nat.lt_of_lt_of_le h2 hg.size⟩,⟨by rw[key];exact c0,by rw[key];exact c1,by rw[key];exact c2,by rw[key];exact c3,by rw[key];exact c4⟩,hr.grown hg,ha qa,hb qb⟩
theorem MQ.box {A:Nat} {w:World} (hA:A<w.heap.size) (k:Int) (vw:Value) (pa pb:Option Addr) (ws:List ByteArray) (a b:Qy) (hw:GI A w vw ws) (ha:MQ A w pa a) (hb:MQ A w pb b) (F:Int) (hF:LD k=F):
  MQ A (w.alloc (.cells #[.int .i64 k,vw,.int .i64 F,.pointer pa,.pointer pb] 144)) (some ⟨w.heap.size,0,none⟩) (.node k ws a b):=by
 have hg:w.grownBy (w.alloc (.cells #[.int .i64 k,vw,.int .i64 F,.pointer pa,.pointer pb] 144)) (some A):=Ac ((Below.refl _ _).alloc (Nat.le_refl _) _) _;subst hF;exact⟨w.heap.size,vw,pa,pb,rfl,⟨hA,by simp⟩,⟨by simp,by simp,by simp,by simp,by simp⟩,hw.grown hg,MQ.grown hg a ha,MQ.grown hg b hb⟩
theorem MQ.mis {A:Nat} {w:World} (q:Qy):∀ {p:Option Addr},MQ A w p q->MIs w p q:=by
 induction q with
 |nil=>intro p h;exact h
 |node k ws a b ha hb=>
  intro p h;obtain⟨B,vw,pa,pb,e,⟨_,h2⟩,⟨c0,c1,c2,c3,c4⟩,hr,qa,qb⟩:=h;obtain⟨x,c,rfl,hrs⟩:=Rw hr;exact⟨B,x,_,c,pa,pb,e,h2,⟨c0,c1,c2,c3,c4⟩,hrs,ha qa,hb qb⟩
def Out (A:Nat) (R:Qy×Rst) (w:World) (e:Ending) (w':World):Prop:=
 w.grownBy w' (some A)/\((R.2.bad=0/\∃p,e= .returned (.pointer p)/\MQ A w' p R.1/\Rd A R.2.l w')\/(R.2.bad≠0/\e= .panicked [{v:= .iface 99 (.agg #[.int .i64 R.2.bad]),recovered:=false}]))
def DJ (f:FuncId) (g:Rst->Qy×Rst) (d:Int):Prop:=∀(A:Nat) (l:List ByteArray) (w:World),Rd A l w->
 Calls Tryz.prog f #[.pointer (some ⟨A,0,none⟩),.int .i64 d] w fun e w'=>Out A (g ⟨l,0⟩) w e w'
theorem Out.thrown {A:Nat} {R:Qy×Rst} {w w':World} {n:Int} (hR:R.2.bad=n) (hn:n≠0) (hg:w.grownBy w' (some A)):Out A R w (.panicked [{v:= .iface 99 (.agg #[.int .i64 n]),recovered:=false}]) w':=⟨hg,.inr ⟨by rw[hR];exact hn,by rw[hR]⟩⟩
theorem Out.made {A:Nat} {R:Qy×Rst} {w w':World} {p:Option Addr} {q:Qy} {l:List ByteArray} (hR:R=(q,⟨l,0⟩)) (hg:w.grownBy w' (some A)) (hq:MQ A w' p q) (hr:Rd A l w'):Out A R w (.returned (.pointer p)) w':=by
 subst hR;exact⟨hg,.inl ⟨rfl,p,rfl,hq,hr⟩⟩
theorem BQ (A:Nat) (l:List ByteArray) (k:Int) (x:ByteArray) (r:List ByteArray) (w:World) (h:Rd A l w) (hl:AJ l=(k,x)) (hr:l.tail=r):Calls Tryz.prog 43 #[.pointer (some ⟨A,0,none⟩)] w fun e w'=>e= .returned (.agg #[.int .i64 k,.string x])/\Rd A r w'/\w.grownBy w' (some A):=by
 have:=Nb A l w h;rw[hl,hr]at this;exact this
theorem PV {A:Nat} {w w':World} (hg:w.grownBy w' (some A)) {b:Nat} (hb:b<w.heap.size) (hA:b≠A) (o:Nat):w'.cell? ⟨b,o,none⟩=w.cell? ⟨b,o,none⟩:=
 World.cell?_of_block (w:=w) (a:=⟨b,o,none⟩) (hg.block b hb (fun e=>by cases e;exact hA rfl))
theorem Rd.lt {A:Nat} {l:List ByteArray} {w:World} (h:Rd A l w):A<w.heap.size:=h.1.2.2.1
theorem Rd.ends {A:Nat} {l:List ByteArray} {w:World} (h:Rd A l w):AQ w:=h.1.2.2.2.2
theorem Ap {A:Nat} {w w':World} (hg:w.grownBy w' (some A)) (o:Obj):w.grownBy (w'.alloc o) (some A):=hg.trans (Ac ((Below.refl _ _).alloc (Nat.le_refl _) _) _)
theorem Rd.alloc {A:Nat} {l:List ByteArray} {w:World} (h:Rd A l w) (o:Obj):Rd A l (w.alloc o):=h.below ((Below.refl _ _).alloc (Nat.le_refl _) _)
def KH (A:Nat) (d:Int) (w:World) (R:Qy×Rst):Prop:=Calls Tryz.prog 112 #[.pointer (some ⟨A,0,none⟩),.int .i64 d] w fun e w'=>Out A R w e w'
set_option maxHeartbeats 2000000
theorem RD (A:Nat) (d:Int) (w:World) (R:Qy×Rst) (hd:12<d) (hR:R.2.bad=4):KH A d w R:=by
 show Calls _ _ _ _ _;have HR:Hid (R.2.bad=4):=hR;clear hR;go_enter Tryz.func112,Tryz.ntmps112;go_wp2;exact⟨rfl,Out.thrown HR.out (by decide) (Jc _ _)⟩
theorem JN (A:Nat) (d:Int) (l:List ByteArray) (k:Int) (x:ByteArray) (w:World) (R:Qy×Rst) (h:Rd A l w) (hd:¬12<d) (hl:AJ l=(k,x)) (h1:k≠1) (h4:k≠4) (h5:k≠5) (hR:R.2.bad=3):KH A d w R:=by
 show Calls _ _ _ _ _;have HR:Hid (R.2.bad=3):=hR;have H:Hid (Rd A l w/\AJ l=(k,x)):=⟨h,hl⟩;have j1:(k == 1)=false:=by simpa using h1
 have j4:(k == 4)=false:=by simpa using h4
 have j5:(k == 5)=false:=by simpa using h5
 clear hR h hl h1 h4 h5;go_enter Tryz.func112,Tryz.ntmps112;go_wp2_with fail;refine(BQ A l k x _ w H.out.1 H.out.2 rfl).mono ?_;rintro _ w1 ⟨rfl,hr1,hg1⟩;have HG:Hid (w.grownBy w1 (some A)):=hg1;clear hr1 hg1
 go_wp2_with (go_at_call 41;refine(DM _).mono ?_;rintro _ _ ⟨rfl,rfl⟩)
 exact⟨rfl,Out.thrown HR.out (by decide) (Ap HG.out _)⟩
theorem RC (A:Nat) (d:Int) (l:List ByteArray) (x:ByteArray) (w:World) (R:Qy×Rst) (h:Rd A l w) (hd:¬12<d) (hl:AJ l=(5,x)) (hx:BX x=true) (hR:R.2.bad=3):KH A d w R:=by
 show Calls _ _ _ _ _;have HR:Hid (R.2.bad=3):=hR;have H:Hid (Rd A l w/\AJ l=(5,x)/\BX x=true):=⟨h,hl,hx⟩;clear hR h hl hx;go_enter Tryz.func112,Tryz.ntmps112;go_wp2_with fail;refine(BQ A l 5 x _ w H.out.1 H.out.2.1 rfl).mono ?_;rintro _ w1 ⟨rfl,hr1,hg1⟩;have HG:Hid (w.grownBy w1 (some A)):=hg1;clear hr1 hg1
 go_wp2_with first|(go_at_call 41;refine(DM _).mono ?_;rintro _ _ ⟨rfl,rfl⟩)|(go_at_call 162;refine(Dc x true H.out.2.2 _).mono ?_;rintro _ _ ⟨rfl,rfl⟩)
 exact⟨rfl,Out.thrown HR.out (by decide) (Ap HG.out _)⟩
end
end Go.Proofs.YtgfldnaahojnlaaGreatDoor
