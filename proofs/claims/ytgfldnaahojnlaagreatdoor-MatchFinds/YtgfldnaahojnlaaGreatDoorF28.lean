/- MatchFinds: part 28. -/
import Derived.Test.YtgfldnaahojnlaaGreatDoorF27
set_option maxRecDepth 100000
set_option maxHeartbeats 4000000
namespace Go.Proofs.YtgfldnaahojnlaaGreatDoor
section
open Go.RowKit Go.Maps
def isN (nm:ByteArray) (wd:ByteArray->Bool) (d:Nd):Bool:=decide (d.n=nm) && wd d.w
def ofL (nm:ByteArray) (wd:ByteArray->Bool) (D:List Nd):List Pl:=(D.filter (isN nm wd)).map Nd.pl
theorem Uv {nm:ByteArray} {wd:ByteArray->Bool} {D:List Nd} {i:Nat} (hi:i<D.length):ofL nm wd (D.take (i+1))=ofL nm wd (D.take i)++(if isN nm wd D[i]=true then [D[i].pl]else []):=by
 unfold ofL;rw[List.take_succ_eq_append_getElem hi,List.filter_append,List.map_append,List.filter_cons]
 cases isN nm wd D[i]<;>rfl
theorem Q1 (nm:ByteArray) (wd:ByteArray->Bool) (D:List Nd):(ofL nm wd D).length<=D.length:=by
 unfold ofL;rw[List.length_map];exact List.length_filter_le _ _
theorem Ws {nm:ByteArray} {wd:ByteArray->Bool} {D:List Nd} {p:Pl}:p∈ofL nm wd D↔∃d∈D,d.n=nm/\wd d.w=true/\p=d.pl:=by
 unfold ofL isN;constructor
 ·intro h
  obtain⟨d,hd,rfl⟩:=List.mem_map.1 h;obtain⟨h1,h2⟩:=List.mem_filter.1 hd;rw[Bool.and_eq_true,decide_eq_true_eq]at h2;exact⟨d,h1,h2.1,h2.2,rfl⟩
 ·rintro⟨d,hd,e1,e2,rfl⟩
  exact List.mem_map.2 ⟨d,List.mem_filter.2 ⟨hd,by rw[Bool.and_eq_true,decide_eq_true_eq];exact⟨e1,e2⟩⟩,rfl⟩
theorem TU (w:World) (r a:Int):∀(j:Nat) (u:Value),[Value.int .i64 r,Value.int .i64 a][j]? =some u->(w.alloc (.cells #[.int .i64 r,.int .i64 a] 81)).cell? ((⟨w.heap.size,0,none⟩:Addr).add j)=some u:=by
 intro j u hu;have hV:=Cp.new w #[.int .i64 r,.int .i64 a] 81 (by simp);rw[AG];exact hV.get hu
theorem Wd (r a:Int):∀u∈[Value.int .i64 r,Value.int .i64 a],u.oneCell'=true:=by
 intro u hu;simp at hu;rcases hu with rfl|rfl<;>rfl
section
variable {B0 b fw:Nat} {cv:Value} {D:List Nd} {w:World} {nm:ByteArray} {wd:ByteArray->Bool}
set_option maxHeartbeats 8000000
theorem Lk (hS:AS) (hDl:D.length<=500) (h:Gs B0 b D w) (eg:∀args w,(callFunc fw args).run Tryz.prog w= .ok (.enter fw args) w)
  (hs:∀wx y,Below w.heap.size w wx->Calls Tryz.prog fw #[.string y,cv] wx fun e w'=>e= .returned (.bool (wd y))/\w'=wx):
  Calls Tryz.prog 33 #[.pointer (some ⟨b,0,none⟩),.string nm,.func (.func fw) #[] #[cv]] w fun e w'=>∃v T,e= .returned v/\InP w' v T/\(T.Pairwise LtP/\T.length<=500/\∀p,p∈T↔∃d∈D,d.n=nm/\wd d.w=true/\p=d.pl)/\Below w.heap.size w w':=by
 obtain⟨hle,v,hO,hR⟩:=h;have HSS:Hid AS:=hS;clear hS;have HR:Hid (w.ownsRow B0 83 4 v D.length (ndc D)):=hR;obtain⟨a9,c9,hv9⟩:=Bz hR;have HS:Hid (∀wx y,Below w.heap.size w wx->Calls Tryz.prog fw #[.string y,cv] wx fun e w'=>e= .returned (.bool (wd y))/\w'=wx):=hs;have cb:=hO.cell;obtain⟨m,hm⟩:∃m,D.length=m:=⟨_,rfl⟩;have HM:Hid (D.length=m):=hm;rw[hm]at hv9 hDl;subst hv9;obtain⟨i0,hi0,hz0,hz1,hz2⟩:=A5 He;clear hO hR hm hs;go_enter Tryz.func33,Tryz.ntmps33;go_wp2_with fail;clear cb;go_loopw [7,15] (fun rv iv wr=>∃(i:Nat),i<=m/\iv= .int .i64 (i:Nat)/\Hid (wr.ownsRow w.heap.size 81 2 rv (ofL nm wd (D.take i)).length (plc (ofL nm wd (D.take i))))/\Hid (Below w.heap.size w wr)) (fun _ iv _=>m+1-(intOf iv).toNat)
 case atStart=>exact⟨0,Nat.zero_le _,rfl,World.ownsRow_nil _ _ _ _,Below.refl _ _⟩
 case round=>
  obtain⟨i,hi,rfl,HOI,HB⟩:=hrel
  by_cases hlt:i<m
  ·have j1:(i:Int)<(m:Int):=by omega
   have hil:i<D.length:=by rw[HM.out];exact hlt
   obtain⟨g,cap,hv,hg0,hgl,k0,k1,k2,k3⟩:=Q3 (As HR.out HB.out) hil;rw[HM.out]at hv
   cases hv
   have hix:=fun wx=>Oc g m c9 i hlt wx;have HTK:Hid _:=Uv (nm:=nm) (wd:=wd) hil;have hlen:(ofL nm wd (D.take i)).length<=i:=Nat.le_trans (Q1 _ _ _) (by rw[List.length_take];omega);obtain⟨d,hd⟩:∃d,D[i]=d:=⟨_,rfl⟩;rw[hd]at k0 k1 k2 k3 HTK;obtain⟨dn,dw,dr,da⟩:=d;simp only at k0 k1 k2 k3;clear hd hil hg0 hgl;obtain⟨E,hE⟩:∃E,ofL nm wd (D.take i)=E:=⟨_,rfl⟩;have HBA:Hid (Below w.heap.size w (wr.alloc (.cells #[.string dn,.string dw,.int .i64 (dr:Nat),.int .i64 (da:Nat)] 83))):=HB.out.alloc HB.out.size _;have HOA:Hid ((wr.alloc (.cells #[.string dn,.string dw,.int .i64 (dr:Nat),.int .i64 (da:Nat)] 83)).ownsRow w.heap.size 81 2 u7 E.length (plc E)):=by rw[<-hE];exact As HOI.out ((Below.refl _ _).alloc (Nat.le_refl _) _)
   have HV:Hid (Cp wr.heap.size [.string dn,.string dw,.int .i64 (dr:Nat),.int .i64 (da:Nat)] (wr.alloc (.cells #[.string dn,.string dw,.int .i64 (dr:Nat),.int .i64 (da:Nat)] 83))):=Cp.new wr #[.string dn,.string dw,.int .i64 (dr:Nat),.int .i64 (da:Nat)] 83 (by simp);rw[hE]at HTK hlen;obtain⟨wA,hwA⟩:∃z,wr.alloc (.cells #[.string dn,.string dw,.int .i64 (dr:Nat),.int .i64 (da:Nat)] 83)=z:=⟨_,rfl⟩;rw[hwA]at HBA HOA HV;have q0:=HV.out.cell 0 (by simp);have q1:=HV.out.cell 1 (by simp);have q2:=HV.out.cell 2 (by simp);have q3:=HV.out.cell 3 (by simp);simp only[List.getElem_cons_zero,List.getElem_cons_succ]at q0 q1 q2 q3;clear HOI hE HV
   by_cases e1:dn=nm
   ·obtain⟨gb,hgb⟩:∃gb,wd dw=gb:=⟨_,rfl⟩
    have HIS:Hid _:=HS.out wA dw HBA.out;rw[hgb]at HIS;have HIN:Hid (isN nm wd ⟨dn,dw,dr,da⟩=gb):=by show _=_;unfold isN;rw[decide_eq_true e1,Bool.true_and];exact hgb
    clear hgb;subst e1;go_wp2_with fail;refine(show Calls _ _ _ _ _ from HIS.out).mono ?_;rintro _ w9 ⟨rfl,h9⟩;obtain rfl:=h9.symm;clear h9
    cases gb
    ·have HNX:Hid (ofL dn wd (D.take (i+1))=E):=by show _=_;rw[HTK.out,HIN.out];exact List.append_nil _
     go_wp2_with fail;go_roundw
     case rel=>
      refine⟨i+1,by omega,by go_num,?_,HBA⟩;show World.ownsRow _ _ _ _ _ _ _;rw[HNX.out];exact HOA.out
     case measure=>simp[intOf];omega
    ·have HNX:Hid (ofL dn wd (D.take (i+1))=E++[⟨(dr:Nat),(da:Nat)⟩]):=by show _=_;rw[HTK.out,HIN.out];rfl
     have hbA:Below wA.heap.size wA (wA.alloc (.cells #[.int .i64 (dr:Nat),.int .i64 (da:Nat)] 81)):=(Below.refl _ _).alloc (Nat.le_refl _) _;have HOB:Hid ((wA.alloc (.cells #[.int .i64 (dr:Nat),.int .i64 (da:Nat)] 81)).ownsRow w.heap.size 81 2 u7 E.length (plc E)):=As HOA.out hbA;have HBB:Hid (Below w.heap.size w (wA.alloc (.cells #[.int .i64 (dr:Nat),.int .i64 (da:Nat)] 81))):=HBA.out.alloc HBA.out.size _;have HNW:Hid _:=TU wA (dr:Nat) (da:Nat);clear hbA
     go_wp2_with (at_builtin;refine wpList_append_lies _ rfl _ _ 91 rfl w.heap.size 81 i0 (.agg #[.int .i64 0,.int .i64 0]) 2 16 Tryz.underlying91 hi0 hz0 hz1 hz2 rfl (by decide) _ _ _ rfl HOB.out ⟨wA.heap.size,0,none⟩ 1 1 [.int .i64 (dr:Nat),.int .i64 (da:Nat)] rfl rfl HNW.out (Wd _ _) (by decide) (by simp only[maxLen];omega) (by omega) HBB.out.size _ rfl ?_;intro g' cap' w' hO hG hat hlt')
     refine⟨⟨i+1,by omega,by go_num,?_,?_⟩,by simp[intOf];omega⟩
     ·show World.ownsRow _ _ _ _ _ _ _
      rw[HNX.out,List.length_append,Cc];exact hO
     ·exact Aa.below HBB.out (AI (S:=fun q=>w.heap.size<=q) hG (fun q e=>(World.ownsRow.lt HOB.out q e).1)) HBB.out.size (fun _ e=>e)
   ·have HNX:Hid (ofL nm wd (D.take (i+1))=E):=by
     show _=_;rw[HTK.out,if_neg (by unfold isN;rw[decide_eq_false e1,Bool.false_and];decide),List.append_nil]
    have hq:=F0 e1;clear e1;go_wp2_with fail;go_roundw
    case rel=>
     refine⟨i+1,by omega,by go_num,?_,HBA⟩;show World.ownsRow _ _ _ _ _ _ _;rw[HNX.out];exact HOA.out
    case measure=>simp[intOf];omega
  ·have j1:¬(i:Int)<(m:Int):=by omega
   obtain rfl:m=i:=by omega
   have hT:D.take m=D:=List.take_of_length_le (by rw[HM.out];exact Nat.le_refl _);rw[hT]at HOI;have hll:=Q1 nm wd D;rw[HM.out]at hll;have HSO:Hid _:=HSS.out w.heap.size u7 (ofL nm wd D) wr HOI.out HB.out.size (by omega);clear hT;go_wp2_with fail;refine(show Calls _ _ _ _ _ from HSO.out).mono ?_;rintro _ w4 ⟨v4,T,rfl,hr4,⟨t1,t2,t3⟩,hb4⟩;have HR4:Hid (InP w4 v4 T):=InP.of_own hr4 (by omega);have HT:Hid (T.Pairwise LtP/\T.length<=500/\∀p,p∈T↔∃d∈D,d.n=nm/\wd d.w=true/\p=d.pl):=⟨t1,by omega,fun p=>(t2 p).trans Ws⟩;have HB4:Hid (Below w.heap.size w w4):=HB.out.trans hb4;clear hr4 t1 t2 t3 hb4 HSO;go_wp2;go_ret;exact⟨_,T,rfl,HR4.out,HT.out,HB4.out⟩
end
end
section
structure Ht where
 r:Int
 o:Int
def A8 (k:Int) (f s:Bool):Bool:=if k=4 then f && s else if k=6 then !s else true
def Ak (k:Int):List Ht->List Ht->List Ht
 | [],[]=>[]
 |x::a,[]=>(if A8 k true false then [x]else [])++Ak k a []
 | [],y::b=>(if A8 k false true then [⟨y.r,y.o⟩]else [])++Ak k [] b
 |x::a,y::b=>
  if x.r<y.r then(if A8 k true false then [x]else [])++Ak k a (y::b)
  else if y.r<x.r then(if A8 k false true then [⟨y.r,y.o⟩]else [])++Ak k (x::a) b
  else(if A8 k true true then [⟨y.r,x.o+y.o⟩]else [])++Ak k a b
termination_by a b=>a.length+b.length
def cn:List Ht->Int->Int
 | [],_=>0
 |x::l,r=>if x.r=r then x.o else cn l r
def Iv (l:List Ht):Prop:=l.Pairwise (fun x y=>x.r<y.r)
def Ji (l:List Ht):Prop:=∀x∈l,0<x.o
theorem Ji.tl {x:Ht} {l:List Ht} (h:Ji (x::l)):Ji l:=fun y hy=>h y (List.mem_cons_of_mem _ hy)
theorem Ji.hd {x:Ht} {l:List Ht} (h:Ji (x::l)):0<x.o:=h x List.mem_cons_self
theorem Iv.tl {x:Ht} {l:List Ht} (h:Iv (x::l)):Iv l:=(List.pairwise_cons.1 h).2
theorem Iv.hd {x:Ht} {l:List Ht} (h:Iv (x::l)):∀y∈l,x.r<y.r:=(List.pairwise_cons.1 h).1
theorem In {l:List Ht} {r:Int} (h:∀x∈l,x.r≠r):cn l r=0:=by
 induction l with
 |nil=>rfl
 |cons x l ih=>
  show(if x.r=r then x.o else cn l r)=0;rw[if_neg (h x List.mem_cons_self)];exact ih (fun y hy=>h y (List.mem_cons_of_mem _ hy))
theorem PR {l:List Ht} (h:Ji l) (r:Int):0<cn l r↔∃x∈l,x.r=r:=by
 induction l with
 |nil=>simp[cn]
 |cons x l ih=>
  show 0<(if x.r=r then x.o else cn l r)↔_
  by_cases e:x.r=r
  ·rw[if_pos e]
   exact⟨fun _=>⟨x,List.mem_cons_self,e⟩,fun _=>h.hd⟩
  ·rw[if_neg e,ih h.tl]
   constructor
   ·rintro⟨y,hy,hr⟩;exact⟨y,List.mem_cons_of_mem _ hy,hr⟩
   ·rintro⟨y,hy,hr⟩
    rcases List.mem_cons.1 hy with rfl|hy
    ·exact absurd hr e
    ·exact⟨y,hy,hr⟩
theorem LY (k:Int) (a b:List Ht):∀z∈Ak k a b,(∃x∈a,x.r=z.r)\/(∃y∈b,y.r=z.r):=by
 induction a,b using Ak.induct with
 |case1=>intro z hz;simp[Ak]at hz
 |case2 x a ih=>
  intro z hz;rw[Ak,List.mem_append]at hz;rcases hz with hz|hz
  ·split at hz
   ·exact .inl ⟨x,List.mem_cons_self,by rw[List.mem_singleton.1 hz]⟩
   ·simp at hz
  ·rcases ih z hz with⟨y,hy,e⟩|⟨y,hy,e⟩
   ·exact .inl ⟨y,List.mem_cons_of_mem _ hy,e⟩
   ·exact .inr ⟨y,hy,e⟩
 |case3 y b ih=>
  intro z hz;rw[Ak,List.mem_append]at hz;rcases hz with hz|hz
  ·split at hz
   ·exact .inr ⟨y,List.mem_cons_self,by rw[List.mem_singleton.1 hz]⟩
   ·simp at hz
  ·rcases ih z hz with⟨x,hx,e⟩|⟨x,hx,e⟩
   ·exact .inl ⟨x,hx,e⟩
   ·exact .inr ⟨x,List.mem_cons_of_mem _ hx,e⟩
 |case4 x a y b h ih=>
  intro z hz;rw[Ak,if_pos h,List.mem_append]at hz;rcases hz with hz|hz
  ·split at hz
   ·exact .inl ⟨x,List.mem_cons_self,by rw[List.mem_singleton.1 hz]⟩
   ·simp at hz
  ·rcases ih z hz with⟨u,hu,e⟩|⟨u,hu,e⟩
   ·exact .inl ⟨u,List.mem_cons_of_mem _ hu,e⟩
   ·exact .inr ⟨u,hu,e⟩
 |case5 x a y b h h2 ih=>
  intro z hz;rw[Ak,if_neg h,if_pos h2,List.mem_append]at hz;rcases hz with hz|hz
  ·split at hz
   ·exact .inr ⟨y,List.mem_cons_self,by rw[List.mem_singleton.1 hz]⟩
   ·simp at hz
  ·rcases ih z hz with⟨u,hu,e⟩|⟨u,hu,e⟩
   ·exact .inl ⟨u,hu,e⟩
   ·exact .inr ⟨u,List.mem_cons_of_mem _ hu,e⟩
 |case6 x a y b h h2 ih=>
  intro z hz;rw[Ak,if_neg h,if_neg h2,List.mem_append]at hz;rcases hz with hz|hz
  ·split at hz
   ·exact .inr ⟨y,List.mem_cons_self,by rw[List.mem_singleton.1 hz]⟩
   ·simp at hz
  ·rcases ih z hz with⟨u,hu,e⟩|⟨u,hu,e⟩
   ·exact .inl ⟨u,List.mem_cons_of_mem _ hu,e⟩
   ·exact .inr ⟨u,List.mem_cons_of_mem _ hu,e⟩
theorem O1 (c:Bool) (z:Ht) (l:List Ht) (r:Int):cn ((if c then [z]else [])++l) r=if z.r=r/\c=true then z.o else cn l r:=by
 cases c<;>simp[cn]
theorem Vn (k:Int) (a b:List Ht) (r:Int):Iv a->Iv b->Ji a->Ji b->
  cn (Ak k a b) r=if A8 k (decide (0<cn a r)) (decide (0<cn b r))then cn a r+cn b r else 0:=by
 have none_of:∀ {a b:List Ht},(∀x∈a,x.r≠r)->(∀y∈b,y.r≠r)->cn (Ak k a b) r=0:=fun ha hb=>In (fun z hz e=>by
  rcases LY k _ _ z hz with⟨x,hx,e'⟩|⟨y,hy,e'⟩
  ·exact ha x hx (e'.trans e)
  ·exact hb y hy (e'.trans e))
 induction a,b using Ak.induct with
 |case1=>intro _ _ _ _;simp[Ak,cn]
 |case2 x a ih=>
  intro ra rb pa pb;rw[Ak,O1]
  by_cases e:x.r=r
  ·have h0:cn (Ak k a []) r=0:=none_of (fun u hu e'=>by have:=ra.hd u hu;omega) (fun _ h=>by cases h)
   have e1:cn (x::a) r=x.o:=by show(if x.r=r then x.o else cn a r)=x.o;rw[if_pos e]
   have e2:cn [] r=0:=rfl;have:=pa.hd;rw[h0,e1,e2,Int.add_zero];simp[e,this]
  ·have e1:cn (x::a) r=cn a r:=by show(if x.r=r then x.o else cn a r)=cn a r;rw[if_neg e]
   rw[if_neg (fun h=>e h.1),e1];exact ih ra.tl rb pa.tl pb
 |case3 y b ih=>
  intro ra rb pa pb;rw[Ak,O1]
  by_cases e:y.r=r
  ·have h0:cn (Ak k [] b) r=0:=none_of (fun _ h=>by cases h) (fun u hu e'=>by have:=rb.hd u hu;omega)
   have e1:cn (y::b) r=y.o:=by show(if y.r=r then y.o else cn b r)=y.o;rw[if_pos e]
   have e2:cn [] r=0:=rfl;have:=pb.hd;rw[h0,e1,e2,Int.zero_add];simp[e,this]
  ·have e1:cn (y::b) r=cn b r:=by show(if y.r=r then y.o else cn b r)=cn b r;rw[if_neg e]
   rw[if_neg (fun h=>e h.1),e1];exact ih ra rb.tl pa pb.tl
 |case4 x a y b h ih=>
  intro ra rb pa pb;rw[Ak,if_pos h,O1]
  by_cases e:x.r=r
  ·have hb:∀u∈y::b,u.r≠r:=fun u hu e'=>by
    rcases List.mem_cons.1 hu with rfl|hu
    ·omega
    ·have:=rb.hd u hu;omega
   have h0:cn (Ak k a (y::b)) r=0:=none_of (fun u hu e'=>by have:=ra.hd u hu;omega) hb;have e1:cn (x::a) r=x.o:=by show(if x.r=r then x.o else cn a r)=x.o;rw[if_pos e]
   have e2:cn (y::b) r=0:=In hb;have:=pa.hd;rw[h0,e1,e2,Int.add_zero];simp[e,this]
  ·have e1:cn (x::a) r=cn a r:=by show(if x.r=r then x.o else cn a r)=cn a r;rw[if_neg e]
   rw[if_neg (fun h=>e h.1),e1];exact ih ra.tl rb pa.tl pb
 |case5 x a y b h h2 ih=>
  intro ra rb pa pb;rw[Ak,if_neg h,if_pos h2,O1]
  by_cases e:y.r=r
  ·have ha:∀u∈x::a,u.r≠r:=fun u hu e'=>by
    rcases List.mem_cons.1 hu with rfl|hu
    ·omega
    ·have:=ra.hd u hu;omega
   have h0:cn (Ak k (x::a) b) r=0:=none_of ha (fun u hu e'=>by have:=rb.hd u hu;omega);have e1:cn (y::b) r=y.o:=by show(if y.r=r then y.o else cn b r)=y.o;rw[if_pos e]
   have e2:cn (x::a) r=0:=In ha;have:=pb.hd;rw[h0,e1,e2,Int.zero_add];simp[e,this]
  ·have e1:cn (y::b) r=cn b r:=by show(if y.r=r then y.o else cn b r)=cn b r;rw[if_neg e]
   rw[if_neg (fun h=>e h.1),e1];exact ih ra rb.tl pa pb.tl
 |case6 x a y b h h2 ih=>
  intro ra rb pa pb;have hxy:x.r=y.r:=by omega
  rw[Ak,if_neg h,if_neg h2,O1]
  by_cases e:y.r=r
  ·have h0:cn (Ak k a b) r=0:=none_of (fun u hu e'=>by have:=ra.hd u hu;omega) (fun u hu e'=>by have:=rb.hd u hu;omega)
   have e1:cn (y::b) r=y.o:=by show(if y.r=r then y.o else cn b r)=y.o;rw[if_pos e]
   have e2:cn (x::a) r=x.o:=by show(if x.r=r then x.o else cn a r)=x.o;rw[if_pos (hxy.trans e)]
   have h1:=pa.hd;have h2:=pb.hd;rw[h0,e1,e2];simp[e,h1,h2]
  ·have e1:cn (y::b) r=cn b r:=by show(if y.r=r then y.o else cn b r)=cn b r;rw[if_neg e]
   have e2:cn (x::a) r=cn a r:=by show(if x.r=r then x.o else cn a r)=cn a r;rw[if_neg (fun h=>e (hxy.symm.trans h))]
   rw[if_neg (fun h=>e h.1),e1,e2];exact ih ra.tl rb.tl pa.tl pb.tl
theorem Hu {c:Bool} {z:Ht} {l:List Ht} (h:Iv l) (hz:∀y∈l,z.r<y.r):Iv ((if c then [z]else [])++l):=by
 cases c
 ·simpa using h
 ·exact List.pairwise_cons.2 ⟨hz,h⟩
theorem VM (k:Int) (a b:List Ht):Iv a->Iv b->Iv (Ak k a b):=by
 have low:∀ {a b:List Ht} {n:Int},(∀x∈a,n<x.r)->(∀y∈b,n<y.r)->∀z∈Ak k a b,n<z.r:=fun ha hb z hz=>by
  rcases LY k _ _ z hz with⟨x,hx,e⟩|⟨y,hy,e⟩
  ·rw[<-e];exact ha x hx
  ·rw[<-e];exact hb y hy
 induction a,b using Ak.induct with
 |case1=>intro _ _;simp[Ak,Iv]
 |case2 x a ih=>
  intro ra rb;rw[Ak];exact Hu (ih ra.tl rb) (low ra.hd (fun _ h=>by cases h))
 |case3 y b ih=>
  intro ra rb;rw[Ak];exact Hu (ih ra rb.tl) (low (fun _ h=>by cases h) rb.hd)
 |case4 x a y b h ih=>
  intro ra rb;rw[Ak,if_pos h];refine Hu (ih ra.tl rb) (low ra.hd (fun u hu=> ?_));rcases List.mem_cons.1 hu with rfl|hu
  ·exact h
  ·exact Int.lt_trans h (rb.hd u hu)
 |case5 x a y b h h2 ih=>
  intro ra rb;rw[Ak,if_neg h,if_pos h2];refine Hu (ih ra rb.tl) (low (fun u hu=> ?_) rb.hd);rcases List.mem_cons.1 hu with rfl|hu
  ·exact h2
  ·exact Int.lt_trans h2 (ra.hd u hu)
 |case6 x a y b h h2 ih=>
  intro ra rb;have hxy:x.r=y.r:=by omega
  rw[Ak,if_neg h,if_neg h2];exact Hu (ih ra.tl rb.tl) (low (fun u hu=>by have:=ra.hd u hu;show y.r<u.r;omega) rb.hd)
theorem VN (k:Int) (a b:List Ht):Ji a->Ji b->Ji (Ak k a b):=by
 have one:∀ {c:Bool} {z:Ht} {l:List Ht},0<z.o->Ji l->Ji ((if c then [z]else [])++l):=fun {c z l} hz hl u hu=>by
  rcases List.mem_append.1 hu with hu|hu
  ·cases c
   ·simp at hu
   ·rw[List.mem_singleton.1 hu];exact hz
  ·exact hl u hu
 induction a,b using Ak.induct with
 |case1=>intro _ _;simp[Ak,Ji]
 |case2 x a ih=>intro pa pb;rw[Ak];exact one pa.hd (ih pa.tl pb)
 |case3 y b ih=>intro pa pb;rw[Ak];exact one pb.hd (ih pa pb.tl)
 |case4 x a y b h ih=>intro pa pb;rw[Ak,if_pos h];exact one pa.hd (ih pa.tl pb)
 |case5 x a y b h h2 ih=>intro pa pb;rw[Ak,if_neg h,if_pos h2];exact one pb.hd (ih pa pb.tl)
 |case6 x a y b h h2 ih=>intro pa pb;rw[Ak,if_neg h,if_neg h2];exact one (by have:=pa.hd;have:=pb.hd;show 0<x.o+y.o;omega) (ih pa.tl pb.tl)
end
section
open Go.RowKit
structure Rst where
 l:List ByteArray
 bad:Int
inductive Qy where
 |nil
 |node (k:Int) (ws:List ByteArray) (a b:Qy)
def Rst.fails (s:Rst) (e:Int):Rst:=if s.bad=0 then⟨s.l,e⟩else s
def Rst.peek (s:Rst):ByteArray:=if s.bad=0 then s.l.headD ⟨#[]⟩else⟨#[]⟩
def Rst.take (s:Rst) (x:ByteArray):Bool×Rst:=if s.peek=x then(true,⟨s.l.tail,s.bad⟩)else(false,s)
def Rst.plain (s:Rst) (x:ByteArray):ByteArray×Rst:=match Ad x.data.toList with
 | [y]=>(y,s)
 |_=>(⟨#[]⟩,s.fails 3)
def EI (c:UInt8):Bool:=decide (97<=c.toNat) && decide (c.toNat<=122) || decide (48<=c.toNat) && decide (c.toNat<=57)
def Rst.begins (s:Rst) (x:ByteArray):List UInt8->Rst
 | []=>s
 |c::r=>(if !EI c || decide (12<x.size)then s.fails 3 else s).begins x r
def Jy:Qy:= .node 0 [] .nil .nil
def B9:ByteArray:=⟨#[40]⟩
def AA:ByteArray:=⟨#[41]⟩
def Ao:ByteArray:=⟨#[42]⟩
def D7:ByteArray:=⟨#[65,78,68]⟩
def tOr:ByteArray:=⟨#[79,82]⟩
def BK:ByteArray:=⟨#[78,79,84]⟩
def At:ByteArray:=⟨#[78,69,65,82]⟩
def Ax:ByteArray:=⟨#[]⟩
def noOne (p:ByteArray):Bool:=decide (p=Ax) || decide (p=AA) || decide (p=Ao) || decide (p=D7) || decide (p=tOr) || decide (p=BK) || decide (p=At)
def Dd (c:UInt8):Bool:=c == 40 || c == 41 || c == 42 || c == 34
def BA (p:ByteArray):UInt8:=p.data.toList.headD 0
def C7 (p:ByteArray) (s:Rst):Qy×Rst:=
 let x:=s.plain p
 let n:=x.2.take At
 if n.1 then
  let t:=n.2.peek
  if t=Ax\/Dd (BA t)then(.node 1 [x.1] .nil .nil,n.2.fails 3)
  else
   let y:=(n.2.take t).2.plain t
   (.node 3 [x.1,y.1] .nil .nil,y.2)
 else(.node 1 [x.1] .nil .nil,n.2)
def DR (any:Rst->Qy×Rst) (E6:Bool) (s:Rst):Qy×Rst:=
 let p:=s.peek
 if E6 then(Jy,s.fails 4)
 else if p=B9 then
  let r:=any (s.take B9).2
  let c:=r.2.take AA
  (r.1,if c.1 then c.2 else c.2.fails 3)
 else if noOne p then(Jy,s.fails 3)
 else if BA p=34 then
  let ws:=Ad (p.data.toList.drop 1)
  (.node 1 ws .nil .nil,if ws=[]then(s.take p).2.fails 3 else(s.take p).2)
 else
  let st:=(s.take p).2.take Ao
  if st.1 then(.node 2 [A6 p] .nil .nil,st.2.begins p (Aw p.data.toList))
  else C7 p st.2
def Rst.nu (s:Rst):Nat:=if s.bad=0 then s.l.length else 0
def Jh (p:ByteArray):Bool:= !decide (p=Ax) && !decide (p=AA) && !decide (p=tOr)
def CW (one:Rst->Qy×Rst):Nat->Qy->Rst->Qy×Rst
 |0,q,s=>(q,s)
 |f+1,q,s=>
  if Jh s.peek then
   let n:=s.take BK
   let r:=one (if n.1 then n.2 else(n.2.take D7).2)
   CW one f (.node (if n.1 then 6 else 4) [] q r.1) r.2
  else(q,s)
def Dz (one:Rst->Qy×Rst) (s:Rst):Qy×Rst:=let r:=one s;CW one r.2.nu r.1 r.2
def El (all:Rst->Qy×Rst):Nat->Qy->Rst->Qy×Rst
 |0,q,s=>(q,s)
 |f+1,q,s=>
  let o:=s.take tOr
  if o.1 then
   let r:=all o.2
   El all f (.node 5 [] q r.1) r.2
  else(q,o.2)
def EH (one:Rst->Qy×Rst) (s:Rst):Qy×Rst:=let r:=Dz one s;El (Dz one) r.2.nu r.1 r.2
def BM:Nat->Rst->Qy×Rst
 |0=>DR (fun s=>(.nil,s)) true
 |m+1=>DR (EH (BM m)) false
def IN (l:List ByteArray):Qy×Int:=
 let r:=EH (BM 13) ⟨l,0⟩
 let s:=if r.2.l=[]then r.2 else r.2.fails 3
 (if s.bad=0 then r.1 else .nil,s.bad)
theorem Eo {s:Rst} {x y:ByteArray} (h:Ad x.data.toList=[y]):s.plain x=(y,s):=by rw[Rst.plain,h]
theorem FV {s:Rst} {x:ByteArray} {ws:List ByteArray} (h:Ad x.data.toList=ws) (hl:ws.length≠1):s.plain x=(⟨#[]⟩,s.fails 3):=by
 rw[Rst.plain,h]
 match ws,hl with
 | [],_=>rfl
 | [_],h=>exact absurd rfl h
 |_::_::_,_=>rfl
theorem C6 (s:Rst) (e:Int) (he:e≠0):(s.fails e).nu=0:=by
 unfold Rst.fails Rst.nu
 by_cases h:s.bad=0<;>simp[h,he]
theorem CY (s:Rst) (x:ByteArray):(s.take x).2.nu<=s.nu:=by
 unfold Rst.take Rst.nu;split<;>simp<;>split<;>simp
theorem CL {s:Rst} (h:s.peek≠Ax):s.bad=0/\∃r,s.l=s.peek::r:=by
 unfold Rst.peek at *;split at h
 ·rename_i hb
  rw[if_pos hb]
  cases hl:s.l with
  |nil=>rw[hl]at h;exact absurd rfl h
  |cons x r=>exact⟨hb,r,by simp⟩
 ·exact absurd rfl h
theorem Da {s:Rst} {x:ByteArray} (h:s.peek=x) (hx:x≠Ax):(s.take x).2.nu<s.nu:=by
 obtain⟨hb,r,hl⟩:=CL (s:=s) (by rw[h];exact hx);unfold Rst.take Rst.nu;rw[if_pos h];simp[hb,hl]
theorem AH {s:Rst} {x:ByteArray} (h:s.peek=x):s.take x=(true,⟨s.l.tail,s.bad⟩):=by rw[Rst.take,if_pos h]
theorem Ca {s:Rst} {x:ByteArray} (h:s.peek≠x):s.take x=(false,s):=by rw[Rst.take,if_neg h]
theorem NQ (s:Rst) (x:ByteArray):(s.plain x).2.nu<=s.nu:=by
 unfold Rst.plain;split
 ·exact Nat.le_refl _
 ·simp[C6]
theorem Lz (x:ByteArray) (l:List UInt8):∀s:Rst,(s.begins x l).nu<=s.nu:=by
 induction l with
 |nil=>intro s;exact Nat.le_refl _
 |cons c r ih=>
  intro s;unfold Rst.begins;refine Nat.le_trans (ih _) ?_;split
  ·simp[C6]
  ·exact Nat.le_refl _
theorem Q2 (p:ByteArray) (s:Rst):(C7 p s).2.nu<=s.nu:=by
 have h1:=NQ s p;have h2:=CY (s.plain p).2 At;unfold C7;simp only;split
 ·split
  ·simp[C6]
  ·have h3:=CY ((s.plain p).2.take At).2 ((s.plain p).2.take At).2.peek
   have h4:=NQ ((((s.plain p).2.take At).2.take ((s.plain p).2.take At).2.peek).2) ((s.plain p).2.take At).2.peek;simp only;omega
 ·simp only
  omega
theorem Uw {any:Rst->Qy×Rst} (ha:∀s,(any s).2.nu<=s.nu) (E6:Bool) (s:Rst):(DR any E6 s).2.nu<=s.nu/\(s.peek≠Ax->(DR any E6 s).2.nu<s.nu):=by
 have key:s.peek≠Ax->0<s.nu:=fun h=>by
  obtain⟨hb,r,hl⟩:=CL h;unfold Rst.nu;rw[if_pos hb,hl];simp
 unfold DR;simp only;split
 ·rw[C6 _ _ (by decide)];exact⟨Nat.zero_le _,key⟩
 ·split
  ·rename_i hp
   have h1:=Da hp (by decide);have h2:=ha (s.take B9).2;have h3:=CY (any (s.take B9).2).2 AA;split
   ·simp only;exact⟨by omega,fun _=>by omega⟩
   ·simp only;rw[C6 _ _ (by decide)];exact⟨Nat.zero_le _,key⟩
  ·split
   ·rw[C6 _ _ (by decide)];exact⟨Nat.zero_le _,key⟩
   ·rename_i hp hno
    have hne:s.peek≠Ax:=fun e=>hno (by rw[e];decide);have h1:=Da (s:=s) rfl hne;split
    ·split
     ·rw[C6 _ _ (by decide)];exact⟨Nat.zero_le _,key⟩
     ·simp only
      exact⟨by omega,fun _=>h1⟩
    ·have h2:=CY (s.take s.peek).2 Ao
     split
     ·have h3:=Lz s.peek (Aw s.peek.data.toList) ((s.take s.peek).2.take Ao).2
      simp only;exact⟨by omega,fun _=>by omega⟩
     ·have h3:=Q2 s.peek ((s.take s.peek).2.take Ao).2
      exact⟨by omega,fun _=>by omega⟩
theorem Wn {one:Rst->Qy×Rst} (ha:∀s,(one s).2.nu<=s.nu):∀f q s,(CW one f q s).2.nu<=s.nu:=by
 intro f
 induction f with
 |zero=>intro q s;exact Nat.le_refl _
 |succ f ih=>
  intro q s;unfold CW;split
  ·have h1:=CY s BK
   have h2:=CY (s.take BK).2 D7;refine Nat.le_trans (ih _ _) (Nat.le_trans (ha _) ?_);split<;>omega
  ·exact Nat.le_refl _
theorem Jp {one:Rst->Qy×Rst} (ha:∀s,(one s).2.nu<=s.nu) (s:Rst):(Dz one s).2.nu<=(one s).2.nu:=Wn ha _ _ _
theorem Wm {all:Rst->Qy×Rst} (ha:∀s,(all s).2.nu<=s.nu):∀f q s,(El all f q s).2.nu<=s.nu:=by
 intro f
 induction f with
 |zero=>intro q s;exact Nat.le_refl _
 |succ f ih=>
  intro q s;have h1:=CY s tOr;unfold El;simp only;split
  ·exact Nat.le_trans (ih _ _) (Nat.le_trans (ha _) h1)
  ·exact h1
theorem Wl {one:Rst->Qy×Rst} (ha:∀s,(one s).2.nu<=s.nu) (s:Rst):(EH one s).2.nu<=s.nu:=
 Nat.le_trans (Wm (fun s=>Nat.le_trans (Jp ha s) (ha s)) _ _ _) (Nat.le_trans (Jp ha s) (ha s))
theorem DS (m:Nat):∀s,(BM m s).2.nu<=s.nu/\(s.peek≠Ax->(BM m s).2.nu<s.nu):=by
 induction m with
 |zero=>intro s;exact Uw (fun s=>Nat.le_refl _) true s
 |succ m ih=>intro s;exact Uw (Wl (fun s=>(ih s).1)) false s
def K8 (l:List Ht) (r:Int):List Ht:=match l.getLast? with
 |some x=>if x.r=r then l.dropLast++[⟨r,x.o+1⟩]else l++[⟨r,1⟩]
 |none=>[⟨r,1⟩]
theorem K7 (r:Int):K8 [] r=[⟨r,1⟩]:=rfl
theorem K6 (l:List Ht) (x:Ht):K8 (l++[x]) x.r=l++[⟨x.r,x.o+1⟩]:=by simp[K8]
theorem MH {l:List Ht} {x:Ht} {r:Int} (h:x.r≠r):K8 (l++[x]) r=l++[x]++[⟨r,1⟩]:=by simp[K8,h]
def O0 (l:List Ht) (ps:List Pl):List Ht:=ps.foldl (fun l p=>K8 l p.r) l
def Cx (ps:List Pl):List Ht:=O0 [] ps
theorem SN (l:List Ht) (p:Pl) (ps:List Pl):O0 l (p::ps)=O0 (K8 l p.r) ps:=rfl
structure Hk (M:Nat) (l:List Ht):Prop where
 ris:Iv l
 pos:Ji l
 le:∀x∈l,x.o<=(M:Int)
 len:l.length<=M
theorem Hk.nil (M:Nat):Hk M []:=⟨List.Pairwise.nil,fun _ h=>(by cases h),fun _ h=>(by cases h),Nat.zero_le _⟩
theorem Hk.mono {M N:Nat} {l:List Ht} (h:Hk M l) (hm:M<=N):Hk N l:=⟨h.ris,h.pos,fun x hx=>by have:=h.le x hx;omega,Nat.le_trans h.len hm⟩
theorem X0 (k:Int) (M N:Int) (hM:0<=M) (hN:0<=N) (a b:List Ht):(∀x∈a,x.o<=M)->(∀x∈b,x.o<=N)->∀x∈Ak k a b,x.o<=M+N:=by
 have one:∀ {c:Bool} {z:Ht} {l:List Ht},z.o<=M+N->(∀x∈l,x.o<=M+N)->∀x∈(if c then [z]else [])++l,x.o<=M+N:=fun {c z l} hz hl x hx=>by
  rcases List.mem_append.1 hx with hx|hx
  ·cases c
   ·simp at hx
   ·rw[List.mem_singleton.1 hx];exact hz
  ·exact hl x hx
 induction a,b using Ak.induct with
 |case1=>intro _ _ x hx;simp[Ak]at hx
 |case2 x a ih=>intro ha hb;rw[Ak];exact one (by have:=ha x (by simp);omega) (ih (fun y hy=>ha y (by simp[hy])) hb)
 |case3 y b ih=>intro ha hb;rw[Ak];exact one (by have:=hb y (by simp);show y.o<=_;omega) (ih ha (fun z hz=>hb z (by simp[hz])))
 |case4 x a y b h ih=>intro ha hb;rw[Ak,if_pos h];exact one (by have:=ha x (by simp);omega) (ih (fun y hy=>ha y (by simp[hy])) hb)
 |case5 x a y b h h2 ih=>intro ha hb;rw[Ak,if_neg h,if_pos h2];exact one (by have:=hb y (by simp);show y.o<=_;omega) (ih ha (fun z hz=>hb z (by simp[hz])))
 |case6 x a y b h h2 ih=>intro ha hb;rw[Ak,if_neg h,if_neg h2];exact one (by have:=ha x (by simp);have:=hb y (by simp);show x.o+y.o<=_;omega) (ih (fun y hy=>ha y (by simp[hy])) (fun z hz=>hb z (by simp[hz])))
theorem VO (k:Int) (a b:List Ht):(Ak k a b).length<=a.length+b.length:=by
 have one:∀(c:Bool) (z:Ht) (l:List Ht),((if c then [z]else [])++l).length<=l.length+1:=fun c z l=>by cases c<;>simp
 induction a,b using Ak.induct with
 |case1=>simp[Ak]
 |case2 x a ih=>rw[Ak];have:=one (A8 k true false) x (Ak k a []);simp only[List.length_cons,List.length_nil]at *;omega
 |case3 y b ih=>rw[Ak];have:=one (A8 k false true) ⟨y.r,y.o⟩ (Ak k [] b);simp only[List.length_cons,List.length_nil]at *;omega
 |case4 x a y b h ih=>rw[Ak,if_pos h];have:=one (A8 k true false) x (Ak k a (y::b));simp only[List.length_cons]at *;omega
 |case5 x a y b h h2 ih=>rw[Ak,if_neg h,if_pos h2];have:=one (A8 k false true) ⟨y.r,y.o⟩ (Ak k (x::a) b);simp only[List.length_cons]at *;omega
 |case6 x a y b h h2 ih=>rw[Ak,if_neg h,if_neg h2];have:=one (A8 k true true) ⟨y.r,x.o+y.o⟩ (Ak k a b);simp only[List.length_cons]at *;omega
theorem Hk.tog {M N:Nat} {a b:List Ht} (k:Int) (ha:Hk M a) (hb:Hk N b):Hk (M+N) (Ak k a b):=
 ⟨VM k a b ha.ris hb.ris,VN k a b ha.pos hb.pos,fun x hx=>by have:=X0 k M N (by omega) (by omega) a b ha.le hb.le x hx;omega,by have:=VO k a b;have:=ha.len;have:=hb.len;omega⟩
structure OF (ps:List Pl) (l:List Ht):Prop where
 hk:Hk ps.length l
 mem:∀x∈l,∃p∈ps,p.r=x.r
 all:∀p∈ps,∃x∈l,x.r=p.r
theorem WP {ps:List Pl} {l:List Ht} {p:Pl} (h:OF ps l) (hp:∀q∈ps,q.r<=p.r):OF (ps++[p]) (K8 l p.r):=by
 rcases List.eq_nil_or_concat l with rfl|⟨l',x,rfl⟩
 ·have e:ps=[]:=by
   cases ps with
   |nil=>rfl
   |cons q ps=>obtain⟨x,hx,_⟩:=h.all q (by simp);cases hx
  subst e;rw[K7];exact⟨⟨List.pairwise_singleton _ _,fun x hx=>by rw[List.mem_singleton.1 hx];exact Int.one_pos,fun x hx=>by rw[List.mem_singleton.1 hx];exact Int.le_refl _,Nat.le_refl _⟩,fun x hx=>⟨p,by simp,by rw[List.mem_singleton.1 hx]⟩,fun q hq=>⟨⟨p.r,1⟩,List.mem_singleton.2 rfl,by have e:q=p:=(by simpa using hq);rw[e]⟩⟩
 ·rw[List.concat_eq_append]at *
  obtain⟨⟨h1,h2,h3,h4⟩,h5,h6⟩:=h;unfold Iv at h1;rw[List.pairwise_append]at h1;obtain⟨r1,_,r3⟩:=h1;have hlx:∀y∈l',y.r<x.r:=fun y hy=>r3 y hy x (by simp);obtain⟨qx,hqx,eqx⟩:=h5 x (by simp);have hxp:x.r<=p.r:=by have:=hp qx hqx;omega
  by_cases e:x.r=p.r
  ·rw[<-e,K6]
   refine⟨⟨?_,fun y hy=> ?_,fun y hy=> ?_,by simp at h4 ⊢;omega⟩,fun y hy=> ?_,fun q hq=> ?_⟩
   ·exact List.pairwise_append.2 ⟨r1,List.pairwise_singleton _ _,fun y hy z hz=>by rw[List.mem_singleton.1 hz];exact hlx y hy⟩
   ·rcases List.mem_append.1 hy with hy|hy
    ·exact h2 y (by simp[hy])
    ·rw[List.mem_singleton.1 hy];have:=h2 x (by simp);show 0<x.o+1;omega
   ·have hl:((ps++[p]).length:Int)=ps.length+1:=by simp
    rcases List.mem_append.1 hy with hy|hy
    ·have:=h3 y (by simp[hy]);omega
    ·rw[List.mem_singleton.1 hy];have:=h3 x (by simp);show x.o+1<=_;omega
   ·rcases List.mem_append.1 hy with hy|hy
    ·obtain⟨q,hq,e⟩:=h5 y (by simp[hy]);exact⟨q,by simp[hq],e⟩
    ·rw[List.mem_singleton.1 hy];exact⟨p,by simp,e.symm⟩
   ·rcases List.mem_append.1 hq with hq|hq
    ·obtain⟨y,hy,e⟩:=h6 q hq
     rcases List.mem_append.1 hy with hy|hy
     ·exact⟨y,by simp[hy],e⟩
     ·rw[List.mem_singleton.1 hy]at e;exact⟨⟨x.r,x.o+1⟩,by simp,e⟩
    ·rw[List.mem_singleton.1 hq];exact⟨⟨x.r,x.o+1⟩,by simp,e⟩
  ·rw[MH e]
   refine⟨⟨?_,fun y hy=> ?_,fun y hy=> ?_,by simp at h4 ⊢;omega⟩,fun y hy=> ?_,fun q hq=> ?_⟩
   ·refine List.pairwise_append.2 ⟨List.pairwise_append.2 ⟨r1,List.pairwise_singleton _ _,r3⟩,List.pairwise_singleton _ _,fun y hy z hz=> ?_⟩
    rw[List.mem_singleton.1 hz];show y.r<p.r;rcases List.mem_append.1 hy with hy|hy
    ·have:=hlx y hy;omega
    ·rw[List.mem_singleton.1 hy];omega
   ·rcases List.mem_append.1 hy with hy|hy
    ·exact h2 y hy
    ·rw[List.mem_singleton.1 hy];exact Int.one_pos
   ·have hl:((ps++[p]).length:Int)=ps.length+1:=by simp
    rcases List.mem_append.1 hy with hy|hy
    ·have:=h3 y hy;omega
    ·rw[List.mem_singleton.1 hy];show(1:Int)<=_;omega
   ·rcases List.mem_append.1 hy with hy|hy
    ·obtain⟨q,hq,e⟩:=h5 y hy;exact⟨q,by simp[hq],e⟩
    ·rw[List.mem_singleton.1 hy];exact⟨p,by simp,rfl⟩
   ·rcases List.mem_append.1 hq with hq|hq
    ·obtain⟨y,hy,e⟩:=h6 q hq;exact⟨y,List.mem_append_left _ hy,e⟩
    ·rw[List.mem_singleton.1 hq];exact⟨⟨p.r,1⟩,by simp,rfl⟩
theorem WR (qs:List Pl):∀ {ps:List Pl} {l:List Ht},OF ps l->(ps++qs).Pairwise (fun a b=>a.r<=b.r)->OF (ps++qs) (O0 l qs):=by
 induction qs with
 |nil=>intro ps l h _;rw[List.append_nil];exact h
 |cons p qs ih=>
  intro ps l h hs;have hp:∀q∈ps,q.r<=p.r:=fun q hq=>(List.pairwise_append.1 hs).2.2 q hq p (by simp);have:=ih (WP h hp) (by rw[List.append_assoc];exact hs);rw[List.append_assoc]at this;exact this
theorem XO {l:List Pl} (h:l.Pairwise LtP):l.Pairwise (fun a b=>a.r<=b.r):=h.imp (fun {a b} h=>by unfold LtP at h;omega)
theorem Gm {ps:List Pl} (h:ps.Pairwise LtP):OF ps (Cx ps):=by
 have:=WR ps (ps:=[]) (l:=[]) ⟨Hk.nil _,fun _ h=>(by cases h),fun _ h=>(by cases h)⟩ (XO h);rw[List.nil_append]at this;exact this
def CP (pls:ByteArray->List Pl):List Pl->List ByteArray->List Pl
 |s,[]=>s
 |s,w::ws=>CP pls (AC Cz s (pls w)) ws
def Ea (pls:ByteArray->List Pl):List ByteArray->List Pl
 | []=>[]
 |w::ws=>CP pls (pls w) ws
theorem UK (ys:List Pl):AC Cz [] ys=[]:=by
 induction ys with
 |nil=>rfl
 |cons y ys ih=>
  show(if GP y (Cl y [])then _ else AC Cz (Cl y []) ys)=[];exact ih
theorem Lg (pls:ByteArray->List Pl) (ws:List ByteArray):CP pls [] ws=[]:=by
 induction ws with
 |nil=>rfl
 |cons w ws ih=>rw[CP,UK];exact ih
theorem Rp (pls:ByteArray->List Pl) (hp:∀w,(pls w).Pairwise LtP) (ws:List ByteArray):∀s:List Pl,s.Pairwise LtP->(CP pls s ws).Pairwise LtP:=by
 induction ws with
 |nil=>intro s h;exact h
 |cons w ws ih=>intro s h;exact ih _ (IJ h (hp w)).1
theorem Rq (pls:ByteArray->List Pl) (M:Nat) (hp:∀w,(pls w).length<=M) (ws:List ByteArray):∀s:List Pl,s.length<=M->(CP pls s ws).length<=M:=by
 induction ws with
 |nil=>intro s h;exact h
 |cons w ws ih=>intro s h;exact ih _ (Nat.le_trans (Jq Cz (pls w) s) (hp w))
theorem GV (pls:ByteArray->List Pl) (hp:∀w,(pls w).Pairwise LtP) (ws:List ByteArray):(Ea pls ws).Pairwise LtP:=by
 cases ws with
 |nil=>exact List.Pairwise.nil
 |cons w ws=>exact Rp pls hp ws _ (hp w)
theorem J7 (pls:ByteArray->List Pl) (M:Nat) (hp:∀w,(pls w).length<=M) (ws:List ByteArray):(Ea pls ws).length<=M:=by
 cases ws with
 |nil=>exact Nat.zero_le _
 |cons w ws=>exact Rq pls M hp ws _ (hp w)
def FO (pls:ByteArray->List Pl) (l:List Ht) (ws:List ByteArray):List Ht:=ws.foldl (fun l w=>Ak 5 l (Cx (pls w))) l
theorem GB (pls:ByteArray->List Pl) (l:List Ht) (w:ByteArray) (ws:List ByteArray):FO pls l (w::ws)=FO pls (Ak 5 l (Cx (pls w))) ws:=rfl
theorem WY (pls:ByteArray->List Pl) (K:Nat) (hp:∀w,(pls w).Pairwise LtP) (hl:∀w,(pls w).length<=K) (ws:List ByteArray):∀(M:Nat) (l:List Ht),Hk M l->Hk (M+K * ws.length) (FO pls l ws):=by
 induction ws with
 |nil=>intro M l h;exact h.mono (by simp)
 |cons w ws ih=>
  intro M l h;have:=ih _ _ (Hk.tog 5 h ((Gm (hp w)).hk.mono (hl w)));rw[GB];exact this.mono (by rw[List.length_cons,Nat.mul_add];omega)
def Ed (pls:ByteArray->List Pl) (u v:ByteArray):List Ht:=(Ag 3 [] (pls u) (pls v)).map (fun r=>⟨r,1⟩)
theorem Q4 (far:Int) (n:Nat):∀(acc:List Int) (a b:List Pl),a.length+b.length<=n->(Ag far acc a b).length<=acc.length+a.length+b.length:=by
 induction n with
 |zero=>
  intro acc a b h;have ha:a=[]:=List.length_eq_zero_iff.1 (by omega);subst ha;rw[Ag];omega
 |succ n ih=>
  intro acc a b h
  cases a with
  |nil=>rw[Ag];omega
  |cons x a=>
   cases b with
   |nil=>rw[Ga];omega
   |cons y b=>
    simp only[List.length_cons]at h;rw[Ag]
    have hacc:(if x.r=y.r/\max (x.a-y.a) (y.a-x.a)<=far then Bu acc x.r else acc).length<=acc.length+1:=by
     split
     ·exact IR acc x.r
     ·omega
    generalize (if x.r=y.r/\max (x.a-y.a) (y.a-x.a)<=far then Bu acc x.r else acc)=acc2 at hacc;split
    ·have:=ih acc2 a (y::b) (by simp only[List.length_cons];omega)
     simp only[List.length_cons]at *;omega
    ·have:=ih acc2 (x::a) b (by simp only[List.length_cons];omega)
     simp only[List.length_cons]at *;omega
def DI (pls:ByteArray->List Pl) (beg:ByteArray->List ByteArray) (k:Int) (ws:List ByteArray):List Ht:=
 if k=1 then Cx (Ea pls ws)
 else if k=2 then(match ws with
  | [s]=>FO pls [] (beg s)
  |_=>[])
 else if k=3 then(match ws with
  | [u,v]=>Ed pls u v
  |_=>[])
 else []
def EA (k:Int):Bool:=decide (k=4) || decide (k=5) || decide (k=6)
def A7 (pls:ByteArray->List Pl) (beg:ByteArray->List ByteArray):Qy->List Ht
 | .nil=>[]
 | .node k ws a b=>if EA k then Ak k (A7 pls beg a) (A7 pls beg b)else DI pls beg k ws
def lvs:Qy->Nat
 | .nil=>0
 | .node k _ a b=>if EA k then lvs a+lvs b else if k=0 then 0 else 1
structure FOk (pls:ByteArray->List Pl) (beg:ByteArray->List ByteArray):Prop where
 right:∀w,DB (pls w)=true
 len:∀w,(pls w).length<=500
 bl:∀s,(beg s).length<=500
section
variable {pls:ByteArray->List Pl} {beg:ByteArray->List ByteArray}
theorem FOk.ris (h:FOk pls beg) (w:ByteArray):(pls w).Pairwise LtP:=((Gz _).1 (h.right w)).2
theorem FOk.ok (h:FOk pls beg) (w:ByteArray):∀p∈pls w,OkP p:=((Gz _).1 (h.right w)).1
theorem VB (h:FOk pls beg) (k:Int) (ws:List ByteArray):Hk 250000 (DI pls beg k ws):=by
 unfold DI;split
 ·exact(Gm (GV pls h.ris ws)).hk.mono (Nat.le_trans (J7 pls 500 h.len ws) (by decide))
 ·split
  ·split
   ·rename_i s
    refine(WY pls 500 h.ris h.len (beg s) 0 [] (Hk.nil _)).mono ?_;have:=h.bl s;omega
   ·exact Hk.nil _
  ·split
   ·split
    ·rename_i u v
     obtain⟨n1,n2⟩:=IB 3 (h.ris u) (h.ris v);have hl:=Q4 3 _ [] (pls u) (pls v) (Nat.le_refl _);have:=h.len u;have:=h.len v;unfold Ed;refine⟨?_,fun x hx=> ?_,fun x hx=> ?_,by rw[List.length_map];simp only[List.length_nil]at hl;omega⟩
     ·unfold Iv;rw[List.pairwise_map];exact n1.imp (fun h=>h)
     ·obtain⟨r,_,rfl⟩:=List.mem_map.1 hx;exact Int.one_pos
     ·obtain⟨r,_,rfl⟩:=List.mem_map.1 hx;show(1:Int)<=_;omega
    ·exact Hk.nil _
   ·exact Hk.nil _
theorem FF (h:FOk pls beg) (q:Qy):Hk (250000 * lvs q) (A7 pls beg q):=by
 induction q with
 |nil=>exact Hk.nil _
 |node k ws a b ha hb=>
  unfold A7 lvs;split
  ·exact(Hk.tog k ha hb).mono (by rw[Nat.mul_add];omega)
  ·split
   ·rename_i h0
    subst h0;exact Hk.nil _
   ·exact(VB h k ws).mono (by omega)
end
def Cf (p:UInt8->Bool) (s:ByteArray) (k:Nat):Nat:=k+((s.data.toList.drop k).takeWhile p).length
theorem Er {p:UInt8->Bool} {s:ByteArray} {k:Nat} (h:k<s.size) (hp:p s[k]=true):Cf p s k=Cf p s (k+1):=by
 unfold Cf;rw[CZ s k h,List.takeWhile_cons_of_pos hp,List.length_cons];omega
theorem IK {p:UInt8->Bool} {s:ByteArray} {k:Nat} (h:k<s.size) (hp:p s[k]=false):Cf p s k=k:=by
 unfold Cf;rw[CZ s k h,List.takeWhile_cons_of_neg (by rw[hp];decide)];rfl
theorem Kw {p:UInt8->Bool} {s:ByteArray} {k:Nat} (h:s.size<=k):Cf p s k=k:=by
 unfold Cf;rw[List.drop_eq_nil_of_le (by rw[AF];exact h)];rfl
theorem Jt (p:UInt8->Bool) (s:ByteArray) (k:Nat):k<=Cf p s k:=by unfold Cf;omega
theorem Ik {p:UInt8->Bool} {s:ByteArray} {k:Nat} (h:k<=s.size):Cf p s k<=s.size:=by
 unfold Cf;have h1:=(List.takeWhile_sublist p (l:=s.data.toList.drop k)).length_le;rw[List.length_drop,AF]at h1;omega
def Cj (c:UInt8):Bool:= !decide (c.toNat=34)
def UO (c:UInt8):Bool:=c == 32 || c == 40 || c == 41 || c == 42 || c == 34
def Bq (c:UInt8):Bool:= !UO c
def A0 (s:ByteArray):Nat->Nat->Option (List ByteArray)
 |0,_=>some []
 |f+1,i=>
  if h:i<s.size then
   if s[i].toNat=32 then A0 s f (i+1)
   else if s[i].toNat=40\/s[i].toNat=41\/s[i].toNat=42 then(A0 s f (i+1)).map (s.extract i (i+1)::·)
   else if s[i].toNat=34 then
    if Cf Cj s (i+1)=s.size then none else(A0 s f (Cf Cj s (i+1)+1)).map (s.extract i (Cf Cj s (i+1))::·)
   else(A0 s f (Cf Bq s i)).map (s.extract i (Cf Bq s i)::·)
  else some []
theorem ND {s:ByteArray} {f i:Nat} (h:s.size<=i):A0 s f i=some []:=by
 cases f with
 |zero=>rfl
 |succ f=>rw[A0,dif_neg (by omega)]
theorem Hh (s:ByteArray) (i k:Nat) (h:k<=s.size):(s.extract i k).size<=s.size:=by simp;omega
theorem IX (s:ByteArray) (f:Nat):∀i L,A0 s f i=some L->L.length<=f/\∀x∈L,x.size<=s.size:=by
 induction f with
 |zero=>intro i L h;cases h;exact⟨Nat.le_refl _,fun x h=>by cases h⟩
 |succ f ih=>
  have key:∀(x:ByteArray) (j:Nat) (L:List ByteArray),x.size<=s.size->(A0 s f j).map (x::·)=some L->L.length<=f+1/\∀y∈L,y.size<=s.size:=by
   intro x j L hx h
   cases hm:A0 s f j with
   |none=>rw[hm]at h;cases h
   |some M=>
    rw[hm]at h
    cases h
    obtain⟨h1,h2⟩:=ih j M hm;refine⟨by simp;omega,fun y hy=> ?_⟩;rcases List.mem_cons.1 hy with rfl|hy
    ·exact hx
    ·exact h2 y hy
  intro i L h;rw[A0]at h;split at h
  ·rename_i hi
   split at h
   ·obtain⟨h1,h2⟩:=ih _ _ h;exact⟨by omega,h2⟩
   ·split at h
    ·exact key _ _ _ (Hh _ _ _ (by omega)) h
    ·split at h
     ·split at h
      ·cases h
      ·exact key _ _ _ (Hh _ _ _ (Ik (by omega))) h
     ·exact key _ _ _ (Hh _ _ _ (Ik (by omega))) h
  ·cases h;exact⟨by simp,fun x h=>by cases h⟩
end
end Go.Proofs.YtgfldnaahojnlaaGreatDoor
