/- MatchFinds: part 40. -/
import Derived.Test.YtgfldnaahojnlaaGreatDoorF39
import Derived.Stop.Asserts
import Derived.Defers
import Derived.Recover
set_option maxRecDepth 100000
set_option maxHeartbeats 4000000
namespace Go.Proofs.YtgfldnaahojnlaaGreatDoor
section
open Go.RowKit
theorem Sy {l:List ByteArray} (hg:∀x∈l.head?,Ei x):(∃x,AJ l=(0,x)/\Jh (⟨l,0⟩:Rst).peek=false)\/(∃x,AJ l=(2,x)/\Jh (⟨l,0⟩:Rst).peek=false)\/(AJ l=(5,tOr)/\Jh (⟨l,0⟩:Rst).peek=false)\/(∃k x,AJ l=(k,x)/\k≠0/\k≠2/\(decide (k=5) && decide (x=tOr))=false/\Jh (⟨l,0⟩:Rst).peek=true):=by
 cases l with
 |nil=>exact .inl ⟨_,rfl,rfl⟩
 |cons y r=>
  have hp:(⟨y::r,0⟩:Rst).peek=y:=rfl;rw[hp];have hy:Ei y:=hg y rfl
  cases hy with
  |opens=>exact .inr (.inr (.inr ⟨1,_,rfl,by decide,by decide,by rfl,by rfl⟩))
  |shuts=>exact .inr (.inl ⟨_,rfl,by rfl⟩)
  |star=>exact .inr (.inr (.inr ⟨3,_,rfl,by decide,by decide,by rfl,by rfl⟩))
  |quoted r' _=>
   refine .inr (.inr (.inr ⟨4,_,C8 r',by decide,by decide,by rfl,?_⟩));unfold Jh;rw[decide_eq_false (Mw 34 r'),decide_eq_false (show ¬_=AA from Fp (by decide)),decide_eq_false (show ¬_=tOr from fun e=>by have:=congrArg BA e;rw[CU]at this;exact absurd this (by decide))];rfl
  |run c r' h1 h=>
   have hR:Ci ⟨(c::r').toArray⟩:=⟨c,r',rfl,h1,h⟩
   by_cases ho:(⟨(c::r').toArray⟩:ByteArray)=tOr
   ·rw[ho]
    exact .inr (.inr (.inl ⟨rfl,by decide⟩))
   ·refine .inr (.inr (.inr ⟨5,_,hR.kind,by decide,by decide,by rw[decide_eq_false ho];rfl,?_⟩))
    unfold Jh;rw[decide_eq_false hR.some,decide_eq_false (show ¬_=AA from hR.ne 41 (by decide)),decide_eq_false ho];rfl
set_option maxHeartbeats 8000000
theorem NK (one:Rst->Qy×Rst) (d:Int) (hO:DJ 112 one d) (hn:∀s,(one s).2.nu<=s.nu/\(s.peek≠Ax->(one s).2.nu<s.nu)):DJ 77 (Dz one) d:=by
 intro A l w h;have HO:Hid (DJ 112 one d):=hO;have HN:Hid (∀s,(one s).2.nu<=s.nu/\(s.peek≠Ax->(one s).2.nu<s.nu)):=hn;have H:Hid (Rd A l w):=h;clear hO hn h;obtain⟨R,hR⟩:∃R,Dz one ⟨l,0⟩=R:=⟨_,rfl⟩;have HR:Hid (CW one (one ⟨l,0⟩).2.nu (one ⟨l,0⟩).1 (one ⟨l,0⟩).2=R):=hR;rw[hR];clear hR;obtain⟨q1,s1,hqs⟩:∃q s,one ⟨l,0⟩=(q,s):=⟨_,_,rfl⟩;have HQ:Hid (one ⟨l,0⟩=(q1,s1)):=hqs;rw[hqs]at HR;clear hqs;go_enter Tryz.func77,Tryz.ntmps77;go_wp2_with fail;refine(HO.out A l w H.out).mono ?_;rintro e w1 ⟨hg1,hcase⟩;rw[HQ.out]at hcase;have HG1:Hid (w.grownBy w1 (some A)):=hg1;clear hg1 H;rcases hcase with⟨hb,p1,rfl,hq1,hr1⟩|⟨hb,rfl⟩
 ·simp only at hb hq1 hr1
  obtain⟨l1,rfl⟩:=F4 hb;have HE:Hid (RP A w p1 q1 l1 w1):=⟨hq1,hr1,HG1.out⟩;clear hb hq1 hr1 HG1 HQ;go_wp2_with fail;go_loopw [5] (fun v wr=>∃(p:Option Addr) (q:Qy) (l:List ByteArray) (f:Nat),v= .pointer p/\Hid (RP A w p q l wr)/\Hid (CW one f q ⟨l,0⟩=R/\l.length<=f)) (fun _ wr=>Wx wr A)
  case atStart=>exact⟨p1,q1,l1,l1.length,rfl,HE,HR.out,Nat.le_refl _⟩
  case round=>
   clear HE HR;obtain⟨p,q,l,f,rfl,HE,hz⟩:=hrel;have hmu:=G8 HE.out.2.1;obtain⟨⟨⟨c0,c1,_⟩,_⟩,hgood⟩:=HE.out.2.1;rcases Sy hgood with⟨x,hx,hgo⟩|⟨x,hx,hgo⟩|⟨hx,hgo⟩|⟨k,x,hx,hk0,hk2,his,hgo⟩
   ·rw[hx]at c0 c1
    clear hx hgood
    have e:(q,(⟨l,0⟩:Rst))=R:=by
     rw[<-hz.out.1]
     cases f with
     |zero=>rfl
     |succ f=>rw[CW,if_neg (by rw[hgo];decide)]
    clear hz hgo;subst e;go_wp2;go_ret;exact Out.made rfl HE.out.2.2 HE.out.1 HE.out.2.1
   ·rw[hx]at c0 c1
    clear hx hgood
    have e:(q,(⟨l,0⟩:Rst))=R:=by
     rw[<-hz.out.1]
     cases f with
     |zero=>rfl
     |succ f=>rw[CW,if_neg (by rw[hgo];decide)]
    clear hz hgo;subst e;go_wp2;go_ret;exact Out.made rfl HE.out.2.2 HE.out.1 HE.out.2.1
   ·rw[hx]at c0 c1
    clear hx hgood
    have e:(q,(⟨l,0⟩:Rst))=R:=by
     rw[<-hz.out.1]
     cases f with
     |zero=>rfl
     |succ f=>rw[CW,if_neg (by rw[hgo];decide)]
    clear hz hgo;subst e;go_wp2_with fail;refine(Jr 5 tOr tOr true (by decide) wr).mono ?_;rintro _ w3 ⟨rfl,hb3⟩;have HE3:Hid (RP A w p q l w3):=RP.to HE.out (HE.out.2.1.below hb3) (Ac hb3 _);clear hb3 c0 c1 HE;go_wp2;go_ret;exact Out.made rfl HE3.out.2.2 HE3.out.1 HE3.out.2.1
   ·rw[hx]at c0 c1
    have j0:(k != 0)=true:=by simpa using hk0
    have j2:(k != 2)=true:=by simpa using hk2
    have HIS:Hid ((decide (k=5) && decide (x=tOr))=false):=his;have hpn:(⟨l,0⟩:Rst).peek≠Ax:=fun e=>by rw[e]at hgo;exact absurd hgo (by decide)
    obtain⟨_,l0,hl0⟩:=CL (s:=⟨l,0⟩) hpn;simp only at hl0;have hlen:l.length=l0.length+1:=by rw[hl0];rfl
    obtain⟨f',rfl⟩:∃f',f=f'+1:=by
     cases f with
     |zero=>have:=hz.out.2;omega
     |succ f=>exact⟨f,rfl⟩
    have hz1:=hz.out.1;have hnf:=hz.out.2;rw[CW,if_pos hgo]at hz1;have HZ1:Hid (CW one f' (.node (if((⟨l,0⟩:Rst).take BK).1=true then 6 else 4) [] q (one (if((⟨l,0⟩:Rst).take BK).1=true then((⟨l,0⟩:Rst).take BK).2 else(((⟨l,0⟩:Rst).take BK).2.take D7).2)).1) (one (if((⟨l,0⟩:Rst).take BK).1=true then((⟨l,0⟩:Rst).take BK).2 else(((⟨l,0⟩:Rst).take BK).2.take D7).2)).2=R):=hz1;have HL0:Hid (l.tail=l0/\(⟨l,0⟩:Rst).peek≠Ax):=⟨by rw[hl0];rfl,hpn⟩;clear hx hgood hk0 hk2 his hgo hz hz1 hl0 hpn;go_wp2_with fail;refine(Jr k x tOr false HIS.out wr).mono ?_;rintro _ w2 ⟨rfl,hb2⟩;have HE2:Hid (RP A w p q l w2):=RP.to HE.out (HE.out.2.1.below hb2) (Ac hb2 _);clear hb2 c0 c1 HE
    by_cases hnot:(⟨l,0⟩:Rst).peek=BK
    ·obtain⟨q4,s4,hqs⟩:∃q s,one ⟨l0,0⟩=(q,s):=⟨_,_,rfl⟩
     have HZ2:Hid (CW one f' (.node 6 [] q q4) s4=R):=by
      have h0:=HZ1.out;rw[AH hnot]at h0;simp only[if_true]at h0;rw[HL0.out.1,hqs]at h0;exact h0
     have hlt2:s4.nu<=l0.length:=by have:=(HN.out ⟨l0,0⟩).1;rw[hqs]at this;exact this
     have HT:Hid (one ⟨l0,0⟩=(q4,s4)):=hqs;have HP:Hid ((⟨l,0⟩:Rst).peek=BK):=hnot;clear hqs hnot HZ1;go_wp2_with fail;refine(En A l BK w2 HE2.out.2.1 Kl (by decide) HP.out).mono ?_;rintro _ w3 ⟨rfl,ha3,hg3⟩;rw[HL0.out.1]at ha3;have HE3:Hid (RP A w p q l0 w3):=RP.to HE2.out ha3 hg3;clear ha3 hg3 HE2;go_wp2_with fail;refine(HO.out A l0 w3 HE3.out.2.1).mono ?_;rintro e w5 ⟨hg5,hcase⟩;rw[HT.out]at hcase;rcases hcase with⟨hb,p5,rfl,hq5,hr5⟩|⟨hb,rfl⟩
     ·simp only at hb hq5 hr5
      obtain⟨l5,rfl⟩:=F4 hb;have HE5:Hid (RP A w (some ⟨w5.heap.size,0,none⟩) (.node 6 [] q q4) l5 (w5.alloc (.cells #[.int .i64 6,.slice none 0 0,.int .i64 0,.pointer p,.pointer p5] 144))):=(RP.to HE3.out hr5 hg5).box hq5 6 rfl;rw[Ia]at hlt2;clear hb hq5 hr5 hg5 HE3 HT;go_wp2;go_roundw
      case rel=>exact⟨_,_,l5,f',rfl,HE5,HZ2.out,by omega⟩
      case measure=>rw[hmu,G8 HE5.out.2.1];omega
     ·simp only at hb
      have HB:Hid (R.2.bad=s4.bad/\s4.bad≠0/\w.grownBy w5 (some A)):=⟨by rw[<-HZ2.out,Ir _ _ _ _ hb],hb,HE3.out.2.2.trans hg5⟩;clear hb hg5 HE3 HT HZ2;go_wp2;exact⟨rfl,Out.thrown HB.out.1 HB.out.2.1 HB.out.2.2⟩
    ·by_cases hand:(⟨l,0⟩:Rst).peek=D7
     ·obtain⟨q4,s4,hqs⟩:∃q s,one ⟨l0,0⟩=(q,s):=⟨_,_,rfl⟩
      have HZ2:Hid (CW one f' (.node 4 [] q q4) s4=R):=by
       have h0:=HZ1.out;rw[Ca hnot]at h0;simp only[Bool.false_eq_true,if_false]at h0;rw[AH hand]at h0;simp only at h0;rw[HL0.out.1,hqs]at h0;exact h0
      have hlt2:s4.nu<=l0.length:=by have:=(HN.out ⟨l0,0⟩).1;rw[hqs]at this;exact this
      have HT:Hid (one ⟨l0,0⟩=(q4,s4)):=hqs;have HP:Hid ((⟨l,0⟩:Rst).peek≠BK/\(⟨l,0⟩:Rst).peek=D7):=⟨hnot,hand⟩;clear hqs hnot hand HZ1;go_wp2_with fail;refine(Fi A l BK w2 HE2.out.2.1 Kl (by decide) HP.out.1).mono ?_;rintro _ w3 ⟨rfl,ha3,hg3⟩;have HE2b:Hid (RP A w p q l w3):=RP.to HE2.out ha3 hg3;clear ha3 hg3 HE2;go_wp2_with fail;refine(En A l D7 w3 HE2b.out.2.1 NY (by decide) HP.out.2).mono ?_;rintro _ w4 ⟨rfl,ha4,hg4⟩;rw[HL0.out.1]at ha4;have HE3:Hid (RP A w p q l0 w4):=RP.to HE2b.out ha4 hg4;clear ha4 hg4 HE2b;go_wp2_with fail;refine(HO.out A l0 w4 HE3.out.2.1).mono ?_;rintro e w5 ⟨hg5,hcase⟩;rw[HT.out]at hcase;rcases hcase with⟨hb,p5,rfl,hq5,hr5⟩|⟨hb,rfl⟩
      ·simp only at hb hq5 hr5
       obtain⟨l5,rfl⟩:=F4 hb;have HE5:Hid (RP A w (some ⟨w5.heap.size,0,none⟩) (.node 4 [] q q4) l5 (w5.alloc (.cells #[.int .i64 4,.slice none 0 0,.int .i64 0,.pointer p,.pointer p5] 144))):=(RP.to HE3.out hr5 hg5).box hq5 4 rfl;rw[Ia]at hlt2;clear hb hq5 hr5 hg5 HE3 HT;go_wp2;go_roundw
       case rel=>exact⟨_,_,l5,f',rfl,HE5,HZ2.out,by omega⟩
       case measure=>rw[hmu,G8 HE5.out.2.1];omega
      ·simp only at hb
       have HB:Hid (R.2.bad=s4.bad/\s4.bad≠0/\w.grownBy w5 (some A)):=⟨by rw[<-HZ2.out,Ir _ _ _ _ hb],hb,HE3.out.2.2.trans hg5⟩;clear hb hg5 HE3 HT HZ2;go_wp2;exact⟨rfl,Out.thrown HB.out.1 HB.out.2.1 HB.out.2.2⟩
     ·obtain⟨q4,s4,hqs⟩:∃q s,one ⟨l,0⟩=(q,s):=⟨_,_,rfl⟩
      have HZ2:Hid (CW one f' (.node 4 [] q q4) s4=R):=by
       have h0:=HZ1.out;rw[Ca hnot]at h0;simp only[Bool.false_eq_true,if_false]at h0;rw[Ca hand]at h0;simp only at h0;rw[hqs]at h0;exact h0
      have hlt2:s4.nu<=l0.length:=by have:=(HN.out ⟨l,0⟩).2 HL0.out.2;rw[hqs,Ia]at this;simp only at this;omega
      have HT:Hid (one ⟨l,0⟩=(q4,s4)):=hqs;have HP:Hid ((⟨l,0⟩:Rst).peek≠BK/\(⟨l,0⟩:Rst).peek≠D7):=⟨hnot,hand⟩;clear hqs hnot hand HZ1;go_wp2_with fail;refine(Fi A l BK w2 HE2.out.2.1 Kl (by decide) HP.out.1).mono ?_;rintro _ w3 ⟨rfl,ha3,hg3⟩;have HE2b:Hid (RP A w p q l w3):=RP.to HE2.out ha3 hg3;clear ha3 hg3 HE2;go_wp2_with fail;refine(Fi A l D7 w3 HE2b.out.2.1 NY (by decide) HP.out.2).mono ?_;rintro _ w4 ⟨rfl,ha4,hg4⟩;have HE3:Hid (RP A w p q l w4):=RP.to HE2b.out ha4 hg4;clear ha4 hg4 HE2b;go_wp2_with fail;refine(HO.out A l w4 HE3.out.2.1).mono ?_;rintro e w5 ⟨hg5,hcase⟩;rw[HT.out]at hcase;rcases hcase with⟨hb,p5,rfl,hq5,hr5⟩|⟨hb,rfl⟩
      ·simp only at hb hq5 hr5
       obtain⟨l5,rfl⟩:=F4 hb;have HE5:Hid (RP A w (some ⟨w5.heap.size,0,none⟩) (.node 4 [] q q4) l5 (w5.alloc (.cells #[.int .i64 4,.slice none 0 0,.int .i64 0,.pointer p,.pointer p5] 144))):=(RP.to HE3.out hr5 hg5).box hq5 4 rfl;rw[Ia]at hlt2;clear hb hq5 hr5 hg5 HE3 HT;go_wp2;go_roundw
       case rel=>exact⟨_,_,l5,f',rfl,HE5,HZ2.out,by omega⟩
       case measure=>rw[hmu,G8 HE5.out.2.1];omega
      ·simp only at hb
       have HB:Hid (R.2.bad=s4.bad/\s4.bad≠0/\w.grownBy w5 (some A)):=⟨by rw[<-HZ2.out,Ir _ _ _ _ hb],hb,HE3.out.2.2.trans hg5⟩;clear hb hg5 HE3 HT HZ2;go_wp2;exact⟨rfl,Out.thrown HB.out.1 HB.out.2.1 HB.out.2.2⟩
 ·simp only at hb
  have HB:Hid (R.2.bad=s1.bad/\s1.bad≠0):=⟨by rw[<-HR.out,Ir _ _ _ _ hb],hb⟩;clear hb HR;go_wp2;exact⟨rfl,Out.thrown HB.out.1 HB.out.2 HG1.out⟩
theorem TZ (f:Nat):∀l L,l.length<=400->pcs f l=some L->∀x∈L,Ei x:=by
 induction f with
 |zero=>intro l L _ h x hx;cases h;cases hx
 |succ f ih=>
  have key:∀(y:ByteArray) (o:Option (List ByteArray)) (L:List ByteArray),Ei y->(∀M,o=some M->∀x∈M,Ei x)->o.map (y::·)=some L->∀x∈L,Ei x:=by
   intro y o L hy ho h x hx;obtain⟨M,rfl,h'⟩:=map_cons h;rcases List.mem_cons.1 hx with rfl|hx
   ·exact hy
   ·exact ho M h' x hx
  intro l L hl h
  cases l with
  |nil=>cases h;intro x hx;cases hx
  |cons c l=>
   simp only[List.length_cons]at hl;rw[pcs]at h;split at h
   ·exact ih l L (by omega) h
   ·rename_i h1
    split at h
    ·rename_i h2
     refine key _ _ _ ?_ (fun M hM=>ih l M (by omega) hM) h;rcases h2 with h2|h2|h2
     ·rw[show c=40 from UInt8.toNat_inj.1 h2];exact .opens
     ·rw[show c=41 from UInt8.toNat_inj.1 h2];exact .shuts
     ·rw[show c=42 from UInt8.toNat_inj.1 h2];exact .star
    ·rename_i h2
     split at h
     ·rename_i h3
      split at h
      ·cases h
      ·refine key _ _ _ ?_ (fun M hM=>ih _ M (by rw[List.length_drop];omega) hM) h
       rw[show c=34 from UInt8.toNat_inj.1 h3];have:=(List.takeWhile_sublist Cj (l:=l)).length_le;exact .quoted _ (by omega)
     ·rename_i h3
      refine key _ _ _ ?_ (fun M hM=>ih _ M (by rw[List.length_drop];omega) hM) h;have:=(List.takeWhile_sublist Bq (l:=l)).length_le;refine .run c _ (by omega) ?_;intro d hd;rcases List.mem_cons.1 hd with rfl|hd
      ·exact Mt h1 h2 h3
      ·have h4:=List.all_takeWhile (p:=Bq) (l:=l)
       rw[List.all_eq_true]at h4;exact h4 d hd
theorem Rd.good {A:Nat} {y:ByteArray} {r:List ByteArray} {w:World} (h:Rd A (y::r) w):∀x∈r,Ei x:=by
 obtain⟨⟨⟨_,_,t,_,h4,h5⟩,_⟩,_⟩:=h;exact TZ _ _ _ (by rw[AF];exact h4) h5
theorem TQ (any:Rst->Qy×Rst) (d:Int) (hd0:0<=d) (hd:¬12<d) (hO:DJ 44 any (d+1)):DJ 112 (DR any false) d:=by
 intro A l w h
 cases l with
 |nil=>exact JN A d [] 0 _ w _ h hd rfl (by decide) (by decide) (by decide) rfl
 |cons y r=>
  have hy:Ei y:=h.2 y rfl
  cases hy with
  |opens=>exact RF any A d r w h hd0 hd hO
  |shuts=>exact JN A d _ 2 _ w _ h hd rfl (by decide) (by decide) (by decide) rfl
  |star=>exact JN A d _ 3 _ w _ h hd rfl (by decide) (by decide) (by decide) rfl
  |quoted q hq=>exact Pe any A d q r w h hq hd
  |run c m h1 h2=>
   have hR:Ci ⟨(c::m).toArray⟩:=⟨c,m,rfl,h1,h2⟩;generalize (⟨(c::m).toArray⟩:ByteArray)=x at *
   cases hs:BX x with
   |true=>exact RC A d (x::r) x w _ h hd hR.kind hs (RR any hR r hs)
   |false=>
    have e:=Uq any hR r hs
    by_cases hst:(⟨r,0⟩:Rst).peek=Ao
    ·rw[if_pos hst,Ta]at e
     obtain⟨_,r2,hr2⟩:=CL (s:=⟨r,0⟩) (by rw[hst];decide);rw[hst]at hr2;simp only at hr2;rw[hr2,List.tail_cons]at e;exact RB A d x r w _ h hd hR hs r2 hr2 (by rw[<-e,hr2])
    ·rw[if_neg hst]at e
     by_cases hw:(Ad x.data.toList).length=1
     ·obtain⟨y,hy⟩:=List.length_eq_one_iff.1 hw
      by_cases hn:(⟨r,0⟩:Rst).peek=At
      ·obtain⟨_,r2,hr2⟩:=CL (s:=⟨r,0⟩) (by rw[hn];decide)
       rw[hn]at hr2;simp only at hr2;have hg:∀z∈r2.head?,Ei z:=fun z hz=>h.good z (by rw[hr2];exact List.mem_cons_of_mem _ (List.mem_of_mem_head? hz));rcases UQ hg with⟨t,r3,hr3,ht⟩|⟨k,z,hk,hz,hb⟩
       ·by_cases hw2:(Ad t.data.toList).length=1
        ·obtain⟨z,hz⟩:=List.length_eq_one_iff.1 hw2
         exact Mp A d x r w _ h hd hR hs r2 hr2 t r3 hr3 ht y z hy hz (by rw[e,hr2,hr3];exact Y2 hy ht hz)
        ·exact N6 A d x r w _ h hd hR hs r2 hr2 t r3 hr3 ht y hy hw2 (by rw[e,hr2,hr3];exact Y4 hy ht hw2)
       ·exact Mq A d x r w _ h hd hR hs r2 hr2 y hy k z hk hz (by rw[e,hr2];exact Y6 hy hb)
      ·exact RA A d x r w _ h hd hR hs hst y hy hn (by rw[e];exact Y7 hy hn)
     ·exact Mo A d x r w _ h hd hR hs hst hw (by rw[e];exact Y8 hw)
theorem Wc (m:Nat):m<=13->DJ 112 (BM m) (13-(m:Int)):=by
 induction m with
 |zero=>intro _ A l w h;exact RD A _ w _ (by decide) rfl
 |succ m ih=>
  intro hm;refine TQ (EH (BM m)) _ (by omega) (by omega) ?_;have e:(13:Int)-((m+1:Nat):Int)+1=13-(m:Int):=by omega
  rw[e];exact NJ (BM m) _ (NK (BM m) _ (ih (by omega)) (DS m)) (fun s=>(DS m s).1)
theorem Ud:DJ 44 (EH (BM 13)) 0:=NJ (BM 13) _ (NK (BM 13) _ (Wc 13 (Nat.le_refl _)) (DS 13)) (fun s=>(DS 13 s).1)
def Yp (s:ByteArray) (w:World) (e:Ending) (w':World):Prop:=
 ((BN s).2=0/\(∃p A,e= .returned (.pointer p)/\w.heap.size<=A/\MQ A w' p (BN s).1)\/(BN s).2≠0/\(BN s).1= .nil/\e= .panicked [{v:= .iface 99 (.agg #[.int .i64 (BN s).2]),recovered:=false}])/\Below w.heap.size w w'
theorem AQ.lt {w:World} (h:AQ w):0<w.heap.size:=by
 have:=h.1
 by_cases hh:0<w.heap.size
 ·exact hh
 ·rw[World.cell?]at this
  simp[Array.getElem?_eq_none (Nat.le_of_not_lt hh)]at this
theorem XA {w:World} {s:ByteArray} {L:List ByteArray} (he:AQ w) (hs:s.size<=400) (hc:BP s.data.toList L):Rd0 w.heap.size 0 ⟨#[]⟩ L (w.alloc (.cells #[.int .i64 0,.string ⟨#[]⟩,.string s] 107)):=by
 have hn:=heap_alloc_new w (.cells #[.int .i64 0,.string ⟨#[]⟩,.string s] 107);refine⟨⟨by simp,by simp,s,by simp,hs,hc⟩,⟨?_,?_,?_⟩,by simp,he.lt,he.below ((Below.refl _ _).alloc (Nat.le_refl _) _)⟩
 all_goals (simp only[World.frozen?,hn];simp)
set_option maxHeartbeats 4000000
theorem R3 (s:ByteArray) (w:World) (hs:s.size<=400) (he:AQ w):Calls Tryz.prog 17 #[.string s] w fun e w'=>Yp s w e w':=by
 have HE:Hid (AQ w):=he;obtain⟨n,hn⟩:∃n,Lib.countByte s.data.toList 34=n:=⟨_,rfl⟩;have HN:Hid (Lib.countByte s.data.toList 34=n):=hn;have hodd:=Wg s.data.toList.length s.data.toList (Nat.le_refl _);have hpa:=XI s s.size 0;rw[List.drop_zero]at hpa;rw[AF,<-hpa,show s.data.toList.count 34=n from hn]at hodd
 have hle:n<=400:=by
  rw[<-hn];have:=List.count_le_length (a:=(34:UInt8)) (l:=s.data.toList);rw[AF]at this;exact Nat.le_trans this hs
 cases hp:A0 s s.size 0 with
 |none=>
  have hn1:n % 2=1:=hodd.1 hp;have HA:Hid (BN s=(.nil,3)):=GD hp;have d1:((n:Int) % 2 == 0)=false:=by simp;omega
  clear hp hodd hpa hn he;go_enter Tryz.func17,Tryz.ntmps17
  go_wp2_with first|(go_at_call 42;refine(LG s _).mono ?_;rintro _ w0 ⟨rfl,hw0⟩;obtain rfl:=hw0.symm;rw[HN.out])|(go_at_call 41;refine(DM _).mono ?_;rintro _ w0 ⟨rfl,hw0⟩;obtain rfl:=hw0.symm)
  refine⟨rfl,.inr ⟨by rw[HA.out];decide,by rw[HA.out],by rw[HA.out]⟩,Below.refl _ _⟩
 |some L=>
  have hn0:n % 2=0:=by
   have:¬n % 2=1:=fun e=>by have:=hodd.2 e;rw[hp]at this;cases this
   omega
  have d1:((n:Int) % 2 == 0)=true:=by simp;omega
  obtain⟨q,s2,hqs⟩:∃q s,EH (BM 13) ⟨L,0⟩=(q,s):=⟨_,_,rfl⟩;have HQ:Hid (EH (BM 13) ⟨L,0⟩=(q,s2)):=hqs
  have HC:Hid (BP s.data.toList L):=by
   show pcs _ _=_;rw[AF,<-hpa,hp]
  have HA:Hid (∀s3,(if s2.l=[]then s2 else s2.fails 3)=s3->BN s=(if s3.bad=0 then q else .nil,s3.bad)):=fun s3 e=>by
   rw[GC hp];unfold IN;rw[hqs];simp only;rw[e]
  have HTop:Hid (DJ 44 (EH (BM 13)) 0):=Ud;clear hp hodd hpa hn he hqs;go_enter Tryz.func17,Tryz.ntmps17
  go_wp2_with first|(go_at_call 42;refine(LG s _).mono ?_;rintro _ w0 ⟨rfl,hw0⟩;obtain rfl:=hw0.symm;rw[HN.out])|(go_at_call 41;refine(BE _).mono ?_;rintro _ w0 ⟨rfl,hw0⟩;obtain rfl:=hw0.symm)|fail
  refine(Le w.heap.size 0 ⟨#[]⟩ L _ (XA HE.out hs HC.out)).mono ?_;rintro _ w1 ⟨rfl,hr1,hg1⟩;have HB1:Hid (Below w.heap.size w w1/\w.heap.size<=w1.heap.size):=⟨((Below.refl w.heap.size w).alloc (Nat.le_refl _) _).trans (Dl hg1 _ (Nat.le_refl _) (by simp)),by have:=hg1.size;simp at this;omega⟩;have H1:Hid (Rd w.heap.size L w1):=hr1;clear hr1 hg1;go_wp2_with fail;refine(HTop.out w.heap.size L w1 H1.out).mono ?_;rintro e w2 ⟨hg2,hcase⟩;rw[HQ.out]at hcase;have HB2:Hid (Below w.heap.size w w2):=HB1.out.1.trans (Dl hg2 _ (Nat.le_refl _) HB1.out.2);clear hg2 H1 HB1;rcases hcase with⟨hb,p,rfl,hq,hrd⟩|⟨hb,rfl⟩
  ·simp only at hb hq hrd
   obtain⟨l2,rfl⟩:=F4 hb;have HM:Hid (MQ w.heap.size w2 p q):=hq;obtain⟨⟨⟨c0,c1,_⟩,_⟩,_⟩:=hrd
   cases l2 with
   |nil=>
    have HA2:Hid (BN s=(q,0)):=by
     show _=_;rw[HA.out ⟨[],0⟩ rfl];rfl
    have c0':w2.cell? ⟨w.heap.size,0,none⟩=some (.int .i64 0):=c0;clear hb hq c0 c1 HA
    go_wp2_with (go_at_call 41;refine(BE _).mono ?_;rintro _ w0 ⟨rfl,hw0⟩;obtain rfl:=hw0.symm)
    go_ret;refine⟨.inl ⟨by rw[HA2.out],p,w.heap.size,rfl,Nat.le_refl _,?_⟩,HB2.out⟩;rw[HA2.out];exact HM.out
   |cons y r=>
    have HA2:Hid (BN s=(.nil,3)):=by
     show _=_;rw[HA.out ⟨y::r,3⟩ rfl];rfl
    obtain⟨k,hk⟩:∃k,(DU y).1=k:=⟨_,rfl⟩;have c0':w2.cell? ⟨w.heap.size,0,none⟩=some (.int .i64 k):=by rw[<-hk];exact c0
    have j0:(k == 0)=false:=by
     have:=QF y;rw[hk]at this;simpa using this
    clear hb hq c0 c1 HA hk
    go_wp2_with (go_at_call 41;refine(DM _).mono ?_;rintro _ w0 ⟨rfl,hw0⟩;obtain rfl:=hw0.symm)
    refine⟨rfl,.inr ⟨by rw[HA2.out];decide,by rw[HA2.out],by rw[HA2.out]⟩,HB2.out⟩
  ·simp only at hb
   have HA2:Hid (BN s=(.nil,s2.bad)/\s2.bad≠0):=by
    refine⟨?_,hb⟩;have e:(if s2.l=[]then s2 else s2.fails 3)=s2:=by rw[show s2.fails 3=s2 by rw[Rst.fails,if_neg hb]];split<;>rfl
    rw[HA.out s2 e,if_neg hb]
   clear hb HA;go_wp2;refine⟨rfl,.inr ⟨by rw[HA2.out.1];exact HA2.out.2,by rw[HA2.out.1],by rw[HA2.out.1]⟩,HB2.out⟩
set_option maxHeartbeats 2000000
theorem T4 (n:Int) (w:World):Calls Tryz.prog 16 #[.iface 99 (.agg #[.int .i64 n])] w fun e w'=>e= .returned (.iface 24 (.int .i64 n))/\Below w.heap.size w w':=by
 have hta:∀w:World,(Instr.typeAssert (.iface 99 (.agg #[.int .i64 n])) 20 99 true).run Tryz.prog w= .ok (.tuple #[.agg #[.int .i64 n],.bool true]) w:=fun _=>by kernel_rfl
 go_enter Tryz.func16,Tryz.ntmps16;go_wp2;go_ret;exact⟨rfl,(Below.refl _ _).alloc (Nat.le_refl _) _⟩
theorem PW (p q:Addr) (w:World):
  CallsD Tryz.prog 15 #[.pointer (some p),.pointer (some q)] .returning w fun e u' w'=>e= .returned (.tuple #[])/\u'= .returning/\w'=w:=by
 refine callsD_of_wpS Tryz.func15 rfl fun c₀ cs hu=> ?_;simp only[Tryz.ntmps15,List.size_toArray,List.length_cons,List.length_nil,Nat.reduceAdd,Nat.reduceSub,Array.replicate_succ,Array.replicate_zero,List.push_toArray,List.append_toArray,List.nil_append,List.cons_append];apply wpS_seq;apply wpS_region;simp[wpOpsS,go_sem,recoverD,hu,Exit.thenS];refine wpS_of_wp ?_;go_wp2
 cases c₀
 simp_all[bodyPostS,results,Tryz.results15]
theorem MJ (b:Nat) (n:Int) (w:World) (c0:w.cell? ⟨b,0,none⟩=some (.pointer none)) (c1:w.cell? ⟨b+1,0,none⟩=some .nilIface) (f0:w.frozen? ⟨b,0,none⟩=false) (f1:w.frozen? ⟨b+1,0,none⟩=false):
  CallsD Tryz.prog 15 #[.pointer (some ⟨b,0,none⟩),.pointer (some ⟨b+1,0,none⟩)] (.panicking [{v:= .iface 99 (.agg #[.int .i64 n]),recovered:=false}]) w fun e u' w'=>e= .returned (.tuple #[])/\u'= .panicking [{v:= .iface 99 (.agg #[.int .i64 n]),recovered:=true}]/\w'.cell? ⟨b,0,none⟩=some (.pointer none)/\w'.cell? ⟨b+1,0,none⟩=some (.iface 24 (.int .i64 n))/\Below b w w':=by
 refine callsD_of_wpS Tryz.func15 rfl fun c₀ cs hu=> ?_;simp only[Tryz.ntmps15,List.size_toArray,List.length_cons,List.length_nil,Nat.reduceAdd,Nat.reduceSub,Array.replicate_succ,Array.replicate_zero,List.push_toArray,List.append_toArray,List.nil_append,List.cons_append];apply wpS_seq;apply wpS_region;simp[wpOpsS,go_sem,recoverD,hu,Exit.thenS];refine wpS_of_wp ?_;go_wp2_with fail;refine(T4 n w).mono ?_;rintro _ w1 ⟨rfl,hb1⟩;have hlt:=World.block_lt_of_cell? w _ c1;simp only at hlt;have k0:w1.cell? ⟨b,0,none⟩=some (.pointer none):=(hb1.cell (p:=⟨b,0,none⟩) (by simp only;omega)).trans c0;have k1:w1.cell? ⟨b+1,0,none⟩=some .nilIface:=(hb1.cell (p:=⟨b+1,0,none⟩) hlt).trans c1;have g0:w1.frozen? ⟨b,0,none⟩=false:=by rw[World.frozen?_of_block (a:=⟨b,0,none⟩) (hb1.block b (by omega))];exact f0
 have g1:w1.frozen? ⟨b+1,0,none⟩=false:=by rw[World.frozen?_of_block (a:=⟨b+1,0,none⟩) (hb1.block (b+1) hlt)];exact f1
 have HB:Hid (Below b w w1):=hb1.mono (by omega);clear hb1 c0 c1 f0 f1 hlt;go_wp2;refine⟨rfl,_,rfl,.tuple #[],by simp[results,Tryz.results15],rfl,rfl,?_,?_,(HB.out.setCell (Nat.le_refl _) _).setCell (Nat.le_succ _) _⟩
 ·rw[World.cell?_setCell_other _ _ _ _ (fun e=>by injection e with e;simp at e)]
  exact World.cell?_setCell_same _ _ _ k0
 ·exact World.cell?_setCell_same _ _ _ (by rw[World.cell?_setCell_other _ _ _ _ (fun e=>by injection e with e;simp at e)];exact k1)
theorem JG {P:Program} {fn:Func} {p q:Tmp} {tp tq:TypeId} {v u:Value} (h:fn.results= #[.cell p tp,.cell q tq]) (tmps:Array Value) (w:World) (a b:Addr) (hp:tmps.getD p undef= .pointer (some a)) (hq:tmps.getD q undef= .pointer (some b)) (hl:(loadVar tp a).run P w= .ok v w) (hm:(loadVar tq b).run P w= .ok u w):
  (results fn tmps).run P w= .ok (.tuple #[v,u]) w:=by
 have hp':tmps[p]?.getD undef= .pointer (some a):=by simpa [Array.getD_eq_getD_getElem?]using hp
 have hq':tmps[q]?.getD undef= .pointer (some b):=by simpa [Array.getD_eq_getD_getElem?]using hq
 simp[results,h,hp',hq',asAddr,hl,hm]
theorem MQ.keep {A:Nat} {w w':World} (hs:w.heap.size<=w'.heap.size) (hk:∀k,A<k->k<w.heap.size->w'.heap[k]? =w.heap[k]?) (q:Qy):∀ {p:Option Addr},MQ A w p q->MQ A w' p q:=by
 induction q with
 |nil=>intro p h;exact h
 |node k ws a b ha hb=>
  intro p h;obtain⟨B,vw,pa,pb,e,⟨h1,h2⟩,⟨c0,c1,c2,c3,c4⟩,hr,qa,qb⟩:=h;have key:∀o,w'.cell? ⟨B,o,none⟩=w.cell? ⟨B,o,none⟩:=fun o=>World.cell?_of_block (w:=w) (a:=⟨B,o,none⟩) (hk B h1 h2);refine⟨B,vw,pa,pb,e,⟨h1,Nat.lt_of_lt_of_le h2 hs⟩,⟨by rw[key];exact c0,by rw[key];exact c1,by rw[key];exact c2,by rw[key];exact c3,by rw[key];exact c4⟩,?_,ha qa,hb qb⟩;obtain⟨x,c,rfl,hl,hx⟩:=hr;refine⟨x,c,rfl,hl,?_⟩;rcases hx with hx|⟨g,off,e,g1,g2,g3⟩
  ·exact .inl hx
  ·exact .inr ⟨g,off,e,g1,Nat.lt_of_lt_of_le g2 hs,fun i hi=>by rw[World.cell?_of_block (w:=w) (a:=⟨g,off+i,none⟩) (hk g g1 g2)];exact g3 i hi⟩
set_option maxHeartbeats 4000000
theorem Pn (s:ByteArray) (w:World) (hs:s.size<=400) (he:AQ w):Calls Tryz.prog 5 #[.string s] w fun e w'=>∃p E,e= .returned (.tuple #[.pointer p,E])/\MIs w' p (BN s).1/\((BN s).2=0/\E= .nilIface\/(BN s).2≠0/\E= .iface 24 (.int .i64 (BN s).2))/\Below w.heap.size w w':=by
 have hmf:∀(fn:Fn) (first cap:Array Value) (w:World),(Instr.makeFunc fn first cap).run Tryz.prog w= .ok (.func fn first cap) w:=fun _ _ _ _=>rfl;have HE:Hid (AQ w):=he;clear he
 go_enter_defers Tryz.func5,Tryz.ntmps5
 go_wp2_with fail;obtain⟨W,hW⟩:∃W,(w.alloc (.cells #[.pointer none] 27)).alloc (.cells #[.nilIface] 29)=W:=⟨_,rfl⟩;have hWs:W.heap.size=w.heap.size+2:=by rw[<-hW];simp
 have HWb:Hid (Below w.heap.size w W):=by
  show Below _ _ _;rw[<-hW];exact((Below.refl _ _).alloc (Nat.le_refl _) _).alloc (by simp) _
 have HEW:Hid (AQ W):=HE.out.below HWb.out;have q0:W.cell? ⟨w.heap.size,0,none⟩=some (.pointer none):=by rw[<-hW];simp[go_sem]
 have q1:W.cell? ⟨w.heap.size+1,0,none⟩=some .nilIface:=by rw[<-hW];simp[go_sem]
 have z0:W.frozen? ⟨w.heap.size,0,none⟩=false:=by rw[<-hW];simp[go_sem]
 have z1:W.frozen? ⟨w.heap.size+1,0,none⟩=false:=by rw[<-hW];simp[go_sem]
 rw[hW];clear hW;refine(R3 s W hs HEW.out).mono ?_;rintro e w1 ⟨hcase,hb1⟩;have k0:w1.cell? ⟨w.heap.size,0,none⟩=some (.pointer none):=(hb1.cell (p:=⟨w.heap.size,0,none⟩) (by simp only;omega)).trans q0;have k1:w1.cell? ⟨w.heap.size+1,0,none⟩=some .nilIface:=(hb1.cell (p:=⟨w.heap.size+1,0,none⟩) (by simp only;omega)).trans q1;have g0:w1.frozen? ⟨w.heap.size,0,none⟩=false:=by rw[World.frozen?_of_block (a:=⟨w.heap.size,0,none⟩) (hb1.block w.heap.size (by omega))];exact z0
 have g1:w1.frozen? ⟨w.heap.size+1,0,none⟩=false:=by rw[World.frozen?_of_block (a:=⟨w.heap.size+1,0,none⟩) (hb1.block (w.heap.size+1) (by omega))];exact z1
 have HB1:Hid (Below w.heap.size w w1):=HWb.out.trans (hb1.mono (by omega));clear hb1 q0 q1 z0 z1 HWb HEW;rcases hcase with⟨hn,p,A,rfl,hA,hq⟩|⟨hn,hq,rfl⟩
 ·have HK:Hid ((BN s).2=0/\MQ A w1 p (BN s).1):=⟨hn,hq⟩
  clear hn hq;go_wp2;refine leaves_cons (f:=15) (args:= #[.pointer (some ⟨w.heap.size,0,none⟩),.pointer (some ⟨w.heap.size+1,0,none⟩)]) (by simp) (by simp[go_sem]) ?_;refine(PW ⟨w.heap.size,0,none⟩ ⟨w.heap.size+1,0,none⟩ _).mono ?_;rintro e u' w'' ⟨rfl,rfl,rfl⟩;show ∃v,_/\_;refine⟨.tuple #[.pointer p,.nilIface],JG Tryz.results5 _ _ ⟨w.heap.size,0,none⟩ ⟨w.heap.size+1,0,none⟩ rfl rfl ?_ ?_,p,.nilIface,rfl,?_,?_,(HB1.out.setCell (Nat.le_refl _) _).setCell (Nat.le_succ _) _⟩
  ·simp[go_sem,k0]
  ·simp[go_sem,k1]
  ·refine(MQ.keep ?_ ?_ _ HK.out.2).mis
   ·simp[World.setCell]
   ·intro k h1 h2
    rw[Below.heap_setCell _ ⟨w.heap.size+1,0,none⟩ _ k (fun e=>by simp only at e;omega),Below.heap_setCell _ ⟨w.heap.size,0,none⟩ _ k (fun e=>by simp only at e;omega)]
  ·exact .inl ⟨HK.out.1,rfl⟩
 ·have HK:Hid ((BN s).2≠0/\(BN s).1= .nil):=⟨hn,hq⟩
  clear hn hq;go_wp2;refine leaves_cons (f:=15) (args:= #[.pointer (some ⟨w.heap.size,0,none⟩),.pointer (some ⟨w.heap.size+1,0,none⟩)]) (by simp) (by simp[go_sem]) ?_;refine(MJ w.heap.size (BN s).2 w1 k0 k1 g0 g1).mono ?_;rintro e u' w2 ⟨rfl,rfl,c0,c1,hb2⟩;show ∃v,_/\_;refine⟨.tuple #[.pointer none,.iface 24 (.int .i64 (BN s).2)],JG Tryz.results5 _ _ ⟨w.heap.size,0,none⟩ ⟨w.heap.size+1,0,none⟩ rfl rfl ?_ ?_,none,_,rfl,?_,.inr ⟨HK.out.1,rfl⟩,HB1.out.trans hb2⟩
  ·simp[go_sem,c0]
  ·simp[go_sem,c1]
  ·rw[HK.out.2];exact rfl
end
end Go.Proofs.YtgfldnaahojnlaaGreatDoor
