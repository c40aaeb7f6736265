/- StoreFinds: part 23. -/
import Derived.Test.YtihnldkgeelehaaGreatDoorF22
set_option maxRecDepth 100000
set_option maxHeartbeats 4000000
namespace Go.Proofs.YtihnldkgeelehaaGreatDoor
section
open Go.RowKit Go.Maps
theorem Pz {xs:List Pr} {k:Nat} (hk:k<xs.length):szL (xs.take (k+1))=szL (xs.take k)+xs[k].sz:=by
 rw[List.take_succ_eq_append_getElem hk,Af];rfl
theorem N5 (xs:List Pr) (k:Nat):szL (xs.take k)<=szL xs:=by
 have:=Af (xs.take k) (xs.drop k);rw[List.take_append_drop]at this;omega
def Gx (M:Pr->Prop) (l:List Pr) (y:Pr):Prop:=y∈l\/(M y/\∀x∈l,y.k≠x.k)
theorem PH {M:Pr->Prop} {l:List Pr} {x:Pr} (hd:∀y∈l,y.k≠x.k) (y:Pr):(y=x\/(Gx M l y/\y.k≠x.k))↔Gx M (l++[x]) y:=by
 unfold Gx;constructor
 ·rintro(rfl|⟨h|⟨h1,h2⟩,hk⟩)
  ·exact .inl (by simp)
  ·exact .inl (by simp[h])
  ·refine .inr ⟨h1,fun z hz=> ?_⟩
   rcases List.mem_append.1 hz with hz|hz
   ·exact h2 z hz
   ·obtain rfl:=List.mem_singleton.1 hz
    exact hk
 ·rintro(h|⟨h1,h2⟩)
  ·rcases List.mem_append.1 h with h|h
   ·exact .inr ⟨.inl h,hd y h⟩
   ·exact .inl (List.mem_singleton.1 h)
  ·exact .inr ⟨.inr ⟨h1,fun z hz=>h2 z (by simp[hz])⟩,h2 x (by simp)⟩
theorem Ru (M:Pr->Prop) (y:Pr):M y↔Gx M [] y:=by
 unfold Gx;constructor
 ·exact fun h=> .inr ⟨h,fun x hx=>by cases hx⟩
 ·rintro(h|h)
  ·cases h
  ·exact h.1
theorem OA {xs:List Pr} (hd:xs.Pairwise (fun a b=>a.k≠b.k)) {k:Nat} (hk:k<xs.length):∀y∈xs.take k,y.k≠xs[k].k:=by
 have h:=hd;rw[<-List.take_append_drop k xs,List.pairwise_append]at h;exact fun y hy=>h.2.2 y hy xs[k] (by rw[List.drop_eq_getElem_cons hk];exact List.mem_cons_self)
section
variable {bc bt bp:Nat} {bd:Sts} {bm N Z:Nat} {up:Nat->Bool} {V:Pst} {T:Tr} {M:Pr->Prop} {w:World}
set_option maxHeartbeats 1000000
theorem Jd (h:PrS bc bt bp bd bm N Z M w) {B:Nat} {v:Value} {xs:List Pr} (hR:BU B v xs w) (hB:bp<B/\bm<B) (hok:∀x∈xs,x.Ok) (hd:xs.Pairwise (fun a b=>a.k≠b.k)) (hZ:Z+szL xs<=30000) (hl:xs.length<=100) (hN:N+5000<1000000):
  Calls Tryz.prog 57 #[.pointer (some ⟨bc,0,none⟩),v] w fun e w'=>e= .returned .nilIface/\PrS bc bt bp bd bm (N+40 * xs.length) (Z+szL xs) (Gx M xs) w'/\Aa (fun b=>b=bp\/b=bm) w w':=by
 obtain⟨a9,c9,hv9⟩:=Aj hR;obtain⟨n,hn⟩:∃n,xs.length=n:=⟨_,rfl⟩;rw[hn]at hv9;subst hv9;have HN:Hid (xs.length=n):=hn;have HP:Hid (PrS bc bt bp bd bm N Z M w):=h;have HR:Hid (BU B (.slice a9 n c9) xs w):=hR;have HOK:Hid _:=hok;have HD:Hid _:=hd;have hnec:=h.nec;rw[hn]at hl;rw[hn];clear h hR hok hd hn;go_enter Tryz.func57,Tryz.ntmps57;go_wp2_with fail;go_loopw [10] (fun i wr=>∃k:Nat,k<=n/\i= .int .i64 (k:Nat)/\Hid (PrS bc bt bp bd bm (N+40 * k) (Z+szL (xs.take k)) (Gx M (xs.take k)) wr)/\Hid (BU B (.slice a9 n c9) xs wr)/\Hid (Aa (fun b=>b=bp\/b=bm) w wr)) (fun i _=>n+1-(intOf i).toNat)
 case atStart=>exact⟨0,Nat.zero_le _,rfl,HP.out.iff (Ru M),HR,Aa.refl _ _⟩
 case round=>
  clear HP HR;obtain⟨k,hk,rfl,HP,HR,HO⟩:=hrel
  by_cases hlt:k<n
  ·have h1:(k:Int)<(n:Int):=by omega
   have hkl:k<xs.length:=by rw[HN.out];exact hlt
   obtain⟨g,hg,k1,k2,hix⟩:=HR.out.at hkl;have hgl:=World.block_lt_of_cell? _ _ k1;have HX:Hid (xs[k].Ok):=HOK.out _ (List.getElem_mem hkl);have HT:Hid (xs.take (k+1)=xs.take k++[xs[k]]):=List.take_succ_eq_append_getElem hkl;have HNE:Hid (∀y∈xs.take k,y.k≠xs[k].k):=OA HD.out hkl;have hs1:=Pz hkl;have hs2:=N5 xs (k+1);obtain⟨x,hx⟩:∃x,xs[k]=x:=⟨_,rfl⟩;rw[hx]at k1 k2 HX HT HNE hs1;have HBA:Hid (Below wr.heap.size wr (wr.alloc (.cells #[.string x.k,.string x.i] 126)).drew):=((Below.refl _ wr).alloc (Nat.le_refl _) _).drew;have HPA:Hid (PrS bc bt bp bd bm (N+40 * k) (Z+szL (xs.take k)) (Gx M (xs.take k)) (wr.alloc (.cells #[.string x.k,.string x.i] 126)).drew):=HP.out.below HBA.out
   have C0:Hid ((wr.alloc (.cells #[.string x.k,.string x.i] 126)).drew.cell? ⟨bc,0,none⟩=some (.pointer (some ⟨bt,0,none⟩))/\(wr.alloc (.cells #[.string x.k,.string x.i] 126)).drew.cell? ⟨wr.heap.size,0,none⟩=some (.string x.k)/\(wr.alloc (.cells #[.string x.k,.string x.i] 126)).drew.cell? ⟨wr.heap.size,1,none⟩=some (.string x.i)):=
    ⟨HPA.out.own.cell,(Ac.new wr #[.string x.k,.string x.i] 126 (by simp)).drew.cell 0 (by simp),(Ac.new wr #[.string x.k,.string x.i] 126 (by simp)).drew.cell 1 (by simp)⟩
   clear hx;go_wp2_with fail;clear k1 k2
   go_region_held3 (fun wx=>wx.cell? ⟨bc,0,none⟩=some (.pointer (some ⟨bt,0,none⟩))/\wx.cell? ⟨wr.heap.size,0,none⟩=some (.string x.k)/\wx.cell? ⟨wr.heap.size,1,none⟩=some (.string x.i)) (first|exact C0.out|exact C1.out) (first|(go_at_call 69;refine(V3 HPA.out x HX.out (by omega) (by omega)).mono ?_;rintro _ w2 ⟨rfl,hp2,ho2⟩;have HP2:Hid (PrS bc bt bp bd bm (N+40 * k+40) (Z+szL (xs.take k)+x.sz) (Gx M (xs.take k++[x])) w2):=hp2.iff (PH HNE.out);have HO2:Hid (Aa (fun b=>b=bp\/b=bm) (wr.alloc (.cells #[.string x.k,.string x.i] 126)).drew w2):=ho2;have C1:Hid (w2.cell? ⟨bc,0,none⟩=some (.pointer (some ⟨bt,0,none⟩))/\w2.cell? ⟨wr.heap.size,0,none⟩=some (.string x.k)/\w2.cell? ⟨wr.heap.size,1,none⟩=some (.string x.i)):=⟨HP2.out.own.cell,(ho2.cell (World.block_lt_of_cell? _ _ C0.out.2.1) (fun e=>by rcases e with e|e;(have e':wr.heap.size=bp:=e;omega);(have e':wr.heap.size=bm:=e;omega)) 0).trans C0.out.2.1,(ho2.cell (World.block_lt_of_cell? _ _ C0.out.2.2) (fun e=>by rcases e with e|e;(have e':wr.heap.size=bp:=e;omega);(have e':wr.heap.size=bm:=e;omega)) 1).trans C0.out.2.2⟩;clear hp2 ho2))
   go_wp2_with fail;go_roundw
   case rel=>
    refine⟨k+1,by omega,by go_num,?_,Aw (Ag HR.out HBA.out) HO2.out (fun b e=>by rcases e with e|e<;>omega),(HO.out.trans (Ab HBA.out _) (fun _ e=> .inl e)).trans HO2.out (fun _ e=> .inl e)⟩;show PrS _ _ _ _ _ _ _ _ _;rw[HT.out,<-HT.out,hs1,HT.out];exact HP2.out.mono (by omega) (by omega)
   case measure=>simp[intOf];omega
  ·have h1:¬(k:Int)<(n:Int):=by omega
   obtain rfl:n=k:=by omega
   have HT:Hid (xs.take n=xs):=by rw[<-HN.out];exact List.take_length
   go_wp2;go_ret;refine⟨rfl,?_,HO.out⟩;have:=HP.out;rw[HT.out]at this;exact this
def TZ (bc bt bp:Nat) (bd:Sts) (bm N Z:Nat) (M:Pr->Prop) (ps:List Pr) (w:World) (e:Ending) (w':World):Prop:=
 (ps=[]/\e= .returned (.iface 101 (.int .i64 7))/\Below w.heap.size w w')\/
 (ps≠[]/\e= .returned .nilIface/\PrS bc bt bp bd bm (N+40 * ps.length) Z (fun z=>M z/\z∉ps) w'/\Aa (fun b=>b=bp\/b=bm) w w')
theorem KW (h:Fs bc bt bp bd bm N up V T w) (nm:ByteArray) (hnm:nm.size<=140737488351232) {ps:List Pr} (hps:Bd (pfx (Ap nm)) (Ap nm) 0 T.all=ps) (hin:∀x∈ps,x∈T.all) (hd:ps.Pairwise (fun a b=>a.k≠b.k)) (hl:ps.length<=100) (hZ:szL T.all<=Z) (hN:N+5000<1000000):
  Calls Tryz.prog 43 #[.pointer (some ⟨bc,0,none⟩),.string nm] w fun e w'=>TZ bc bt bp bd bm N Z (·∈T.all) ps w e w':=by
 have HC:Hid (Fs bc bt bp bd bm N up V T w):=h;have HPS:Hid _:=hps;have HIN:Hid _:=hin;have HD:Hid _:=hd;have hnec:=h.nc;have hlt0:=h.tw.lt;have C0:Hid (w.drew.cell? ⟨bc,0,none⟩=some (.pointer (some ⟨bt,0,none⟩))):=h.c.cell;have HCD:Hid (Fs bc bt bp bd bm N up V T w.drew):=h.below (Below.refl _ _).drew;clear h hps hin hd;go_enter Tryz.func43,Tryz.ntmps43;go_wp2_with fail
 go_region_held3 (fun wx=>wx.cell? ⟨bc,0,none⟩=some (.pointer (some ⟨bt,0,none⟩))) (first|exact C0.out|exact C1.out) (first|(go_at_call 61;refine(Et nm (by omega) _).mono ?_;rintro _ w9 ⟨rfl,h9⟩;obtain rfl:=h9.symm;clear h9)|(go_at_call 26;refine(ED _ HCD.out.t HCD.out.tw HCD.out.a (Ap nm)).mono ?_;rintro _ w2 ⟨v2,rfl,hr2,hb2⟩;rw[HPS.out]at hr2;have HR2:Hid (BU w.drew.heap.size v2 ps w2):=hr2;have HB2:Hid (Below w.drew.heap.size w.drew w2):=hb2;have C1:Hid (w2.cell? ⟨bc,0,none⟩=some (.pointer (some ⟨bt,0,none⟩))):=Ae hb2 C0.out;clear hr2 hb2))
 have HB:Hid (Below w.heap.size w w2):=(Below.refl _ w).drew.trans HB2.out;have HC2:Hid (Fs bc bt bp bd bm N up V T w2):=HC.out.below HB.out;have HR:Hid (BU w.heap.size v2 ps w2):=HR2.out;obtain⟨a9,c9,hv9⟩:=Aj HR.out;obtain⟨n,hn⟩:∃n,ps.length=n:=⟨_,rfl⟩;rw[hn]at hv9 hl;have HN:Hid (ps.length=n):=hn;subst hv9;clear HC HCD C0 C1 HB2 HR2 HPS hn
 by_cases h0:n=0
 ·subst h0
  go_wp2;go_ret;exact .inl ⟨List.length_eq_zero_iff.1 HN.out,rfl,HB.out⟩
 ·have i0:¬((n:Int)=0):=by omega
  have i1:((n:Int) == 0)=false:=by simpa using i0
  have HP0:Hid (PrS bc bt bp bd bm (N+40 * 0) Z (fun z=>z∈T.all/\z∉ps.take 0) w2):=⟨N,up,V,T,by omega,HC2.out,hZ,fun x=>by simp⟩;go_wp2_with fail;go_loopw [29] (fun i wr=>∃k:Nat,k<=n/\i= .int .i64 (k:Nat)/\Hid (PrS bc bt bp bd bm (N+40 * k) Z (fun z=>z∈T.all/\z∉ps.take k) wr)/\Hid (BU w.heap.size (.slice a9 n c9) ps wr)/\Hid (Aa (fun b=>b=bp\/b=bm) w wr)) (fun i _=>n+1-(intOf i).toNat)
  case atStart=>exact⟨0,Nat.zero_le _,rfl,HP0,HR,Ab HB.out _⟩
  case round=>
   clear HP0 HR HC2 HB;obtain⟨k,hk,rfl,HP,HR,HO⟩:=hrel
   by_cases hlt:k<n
   ·have h1:(k:Int)<(n:Int):=by omega
    have hkl:k<ps.length:=by rw[HN.out];exact hlt
    obtain⟨g,hg,k1,k2,hix⟩:=HR.out.at hkl;have hgl:=World.block_lt_of_cell? _ _ k1;have HX:Hid (ps[k]∈T.all/\ps[k]∉ps.take k):=⟨HIN.out _ (List.getElem_mem hkl),fun e=>OA HD.out hkl _ e rfl⟩;have HT:Hid (ps.take (k+1)=ps.take k++[ps[k]]):=List.take_succ_eq_append_getElem hkl;obtain⟨x,hx⟩:∃x,ps[k]=x:=⟨_,rfl⟩;rw[hx]at k1 k2 HX HT;have HBA:Hid (Below wr.heap.size wr (wr.alloc (.cells #[.string x.k,.string x.i] 126)).drew):=((Below.refl _ wr).alloc (Nat.le_refl _) _).drew;have HPA:Hid (PrS bc bt bp bd bm (N+40 * k) Z (fun z=>z∈T.all/\z∉ps.take k) (wr.alloc (.cells #[.string x.k,.string x.i] 126)).drew):=HP.out.below HBA.out
    have C0:Hid ((wr.alloc (.cells #[.string x.k,.string x.i] 126)).drew.cell? ⟨bc,0,none⟩=some (.pointer (some ⟨bt,0,none⟩))/\(wr.alloc (.cells #[.string x.k,.string x.i] 126)).drew.cell? ⟨wr.heap.size,0,none⟩=some (.string x.k)):=
     ⟨HPA.out.own.cell,(Ac.new wr #[.string x.k,.string x.i] 126 (by simp)).drew.cell 0 (by simp)⟩
    clear hx;go_wp2_with fail;clear k1 k2
    go_region_held3 (fun wx=>wx.cell? ⟨bc,0,none⟩=some (.pointer (some ⟨bt,0,none⟩))/\wx.cell? ⟨wr.heap.size,0,none⟩=some (.string x.k)) (first|exact C0.out|exact C1.out) (first|(go_at_call 79;refine(Uk HPA.out x HX.out (by omega)).mono ?_;rintro _ w3 ⟨rfl,hp3,ho3⟩;have HP3:Hid (PrS bc bt bp bd bm (N+40 * k+40) Z (fun z=>(z∈T.all/\z∉ps.take k)/\z≠x) w3):=hp3;have HO3:Hid (Aa (fun b=>b=bp\/b=bm) (wr.alloc (.cells #[.string x.k,.string x.i] 126)).drew w3):=ho3;have C1:Hid (w3.cell? ⟨bc,0,none⟩=some (.pointer (some ⟨bt,0,none⟩))/\w3.cell? ⟨wr.heap.size,0,none⟩=some (.string x.k)):=⟨HP3.out.own.cell,(ho3.cell (World.block_lt_of_cell? _ _ C0.out.2) (fun e=>by rcases e with e|e;(have e':wr.heap.size=bp:=e;omega);(have e':wr.heap.size=bm:=e;omega)) 0).trans C0.out.2⟩;clear hp3 ho3))
    go_wp2_with fail;go_roundw
    case rel=>
     refine⟨k+1,by omega,by go_num,?_,Aw (Ag HR.out HBA.out) HO3.out (fun b e=>by rcases e with e|e<;>omega),(HO.out.trans (Ab HBA.out _) (fun _ e=> .inl e)).trans HO3.out (fun _ e=> .inl e)⟩;show PrS _ _ _ _ _ _ _ _ _;rw[HT.out];refine(HP3.out.mono (by omega) (Nat.le_refl _)).iff (fun z=> ?_);constructor
     ·rintro⟨⟨h1,h2⟩,h3⟩
      exact⟨h1,fun e=>by rcases List.mem_append.1 e with e|e;exact h2 e;exact h3 (List.mem_singleton.1 e)⟩
     ·rintro⟨h1,h2⟩
      exact⟨⟨h1,fun e=>h2 (by simp[e])⟩,fun e=>h2 (by simp[e])⟩
    case measure=>simp[intOf];omega
   ·have h1:¬(k:Int)<(n:Int):=by omega
    obtain rfl:n=k:=by omega
    have HT:Hid (ps.take n=ps):=by rw[<-HN.out];exact List.take_length
    go_wp2;go_ret;refine .inr ⟨fun e=>h0 (by rw[<-HN.out,e];rfl),rfl,?_,HO.out⟩;have:=HP.out;rw[HT.out]at this;rw[HN.out];exact this
end
def nxB (n j:Nat):Int:=if j=7 then(n:Int)else 0
theorem He (id n:Nat):(AH id n).size=9:=rfl
theorem Qm (id n j:Nat) (hn:n<256) (hj:j<8) (wx:World):(Instr.index 9 (.string (AH id n)) (.int .i64 (1+(j:Int)))).run Tryz.prog wx= .ok (.int .u8 (nxB n j)) wx:=by
 have h:=B9 (AH id n) (1+j) (by rw[He];omega) (nxB n j).toNat ?_ wx
 ·have e:((nxB n j).toNat:Int)=nxB n j:=by unfold nxB;split<;>simp
  rw[e]at h
  exact_mod_cast h
 ·have:j=0\/j=1\/j=2\/j=3\/j=4\/j=5\/j=6\/j=7:=by omega
  rcases this with rfl|rfl|rfl|rfl|rfl|rfl|rfl|rfl
  all_goals first|rfl|exact BG hn
theorem T7 (id n:Nat) (hid:id<256) (wx:World):(Instr.index 9 (.string (AH id n)) (.int .i64 0)).run Tryz.prog wx= .ok (.int .u8 (id:Nat)) wx:=
 B9 (AH id n) 0 (by rw[He];omega) id (BG hid) wx
theorem Th (b:Nat) (hb:b<256):bits BinOp.or IntKind.i64 0 (b:Int)=(b:Int):=by
 have h2:(BitVec.ofInt 64 (b:Int)).toNat=b:=by
  rw[BitVec.ofInt_natCast,BitVec.toNat_ofNat];exact Nat.mod_eq_of_lt (by omega)
 show IntKind.i64.wrap ((BitVec.ofInt 64 (0:Int) ||| BitVec.ofInt 64 (b:Int)).toNat:Int)=_;rw[BitVec.toNat_or,h2];have:(BitVec.ofInt 64 (0:Int)).toNat=0:=rfl;rw[this,Nat.zero_or];exact Br _ (by omega) (by omega)
set_option maxHeartbeats 1000000
theorem M7 (nm:ByteArray) (id n:Nat) (hid:id<256) (hn:n<256) (w:World):
  Calls Tryz.prog 110 #[.string nm,.string (AH id n)] w fun e w'=>e= .returned (.agg #[.int .i64 (id:Nat),.int .i64 (n:Nat),.string nm,.slice none 0 0,.slice none 0 0])/\Below w.heap.size w w':=by
 have hid0:=T7 id n hid;have hw:(id:Int) % 18446744073709551616=(id:Int):=by omega
 have HB0:Hid (Below w.heap.size w ((w.alloc (.cells #[.int .i64 0,.int .i64 0,.string ⟨#[]⟩,.slice none 0 0,.slice none 0 0] 92)).alloc (.cells #[.int .i64 (id:Nat),.int .i64 0,.string nm,.slice none 0 0,.slice none 0 0] 92))):=((Below.refl _ w).alloc (Nat.le_refl _) _).alloc (by simp) _;have HV4:Hid (Ac w.heap.size [.int .i64 0,.int .i64 0,.string ⟨#[]⟩,.slice none 0 0,.slice none 0 0] ((w.alloc (.cells #[.int .i64 0,.int .i64 0,.string ⟨#[]⟩,.slice none 0 0,.slice none 0 0] 92)).alloc (.cells #[.int .i64 (id:Nat),.int .i64 0,.string nm,.slice none 0 0,.slice none 0 0] 92))):=(Ac.new w _ 92 (by simp)).below ((Below.refl _ _).alloc (Nat.le_refl _) _)
 have HV5:Hid (Ac (w.heap.size+1) [.int .i64 (id:Nat),.int .i64 0,.string nm,.slice none 0 0,.slice none 0 0] ((w.alloc (.cells #[.int .i64 0,.int .i64 0,.string ⟨#[]⟩,.slice none 0 0,.slice none 0 0] 92)).alloc (.cells #[.int .i64 (id:Nat),.int .i64 0,.string nm,.slice none 0 0,.slice none 0 0] 92))):=by
  have:=Ac.new (w.alloc (.cells #[.int .i64 0,.int .i64 0,.string ⟨#[]⟩,.slice none 0 0,.slice none 0 0] 92)) #[.int .i64 (id:Nat),.int .i64 0,.string nm,.slice none 0 0,.slice none 0 0] 92 (by simp);simp only[World.size_alloc]at this;exact this
 go_enter Tryz.func110,Tryz.ntmps110;go_wp2_with fail;clear hid0;go_loopw [13] (fun i wr=>∃j:Nat,j<=8/\i= .int .i64 (j:Nat)/\Hid (Ac w.heap.size [.int .i64 0,.int .i64 0,.string ⟨#[]⟩,.slice none 0 0,.slice none 0 0] wr)/\Hid (Ac (w.heap.size+1) [.int .i64 (id:Nat),.int .i64 (if j=8 then(n:Int)else 0),.string nm,.slice none 0 0,.slice none 0 0] wr)/\Hid (Below w.heap.size w wr)) (fun i _=>9-(intOf i).toNat)
 case atStart=>exact⟨0,Nat.zero_le _,rfl,HV4,HV5,HB0⟩
 case round=>
  clear HV4 HV5 HB0;obtain⟨j,hj,rfl,HV4,HV5,HB⟩:=hrel
  by_cases hlt:j<8
  ·have h1:(j:Int)<8:=by omega
   rw[if_neg (by omega)]at HV5;have hbt:=Qm id n j hn hlt;have wr0:IntKind.i64.wrap 0=0:=by decide
   have wr1:IntKind.i64.wrap (1+(j:Int))=1+(j:Int):=Br _ (by omega) (by omega);have hcv:IntKind.i64.wrap (nxB n j)=nxB n j:=by unfold nxB;split;exact Br _ (by omega) (by omega);decide
   have hor:bits BinOp.or IntKind.i64 0 (nxB n j)=nxB n j:=by unfold nxB;split;exact Th n hn;decide
   have C1:Hid (wr.drew.cell? ⟨w.heap.size+1,1,none⟩=some (.int .i64 0)):=HV5.out.c5.2.1;have C2:Hid (wr.drew.frozen? ⟨w.heap.size+1,1,none⟩=false):=HV5.out.free 1;go_wp2_with fail;refine BZ (S:=fun wx=>wx.cell? ⟨w.heap.size+1,1,none⟩=some (.int .i64 0)) (js:=10) (by kernel_rfl) (C1.out) ?_;intro g0;refine Ad (i:=0) (oi:={dst:=some 16,op:=Op.fieldAddr 92 (Operand.tmp 5) 1,type:=0,pos:= "pair.go:94",after:= #[],guard:=none}) (v:= .pointer (some ⟨w.heap.size+1,1,none⟩)) rfl (by kernel_rfl) (by kernel_rfl) (by kernel_rfl) (fun _ _ _ h=>h) (by decide) (by kernel_rfl) (Or.inl ⟨by rfl,fun wx _=>by go_simp⟩) g0 ?_;simp only[Act.put,List.setIfInBounds_toArray,List.set_cons_zero,List.set_cons_succ];refine Ad (i:=1) (oi:={dst:=some 17,op:=Op.load 3 (Operand.tmp 16),type:=3,pos:= "pair.go:94",after:= #[{on:=0,ground:=Ground.data}],guard:=none}) (v:= .int .i64 0) rfl (by kernel_rfl) (by kernel_rfl) (by kernel_rfl) (fun _ _ _ h=>h) (by decide) (by kernel_rfl) (Or.inl ⟨by rfl,fun wx h=>by have h8:=h;go_simp⟩) g0 ?_;simp only[Act.put,List.setIfInBounds_toArray,List.set_cons_zero,List.set_cons_succ];refine Ad (i:=2) (oi:={dst:=some 18,op:=Op.binOp BinOp.shl 3 (Operand.tmp 17) (Operand.const (Value.int IntKind.u64 8)) 184,type:=3,pos:= "pair.go:94",after:= #[{on:=1,ground:=Ground.data}],guard:=none}) (v:= .int .i64 0) rfl (by kernel_rfl) (by kernel_rfl) (by kernel_rfl) (fun _ _ _ h=>h) (by decide) (by kernel_rfl) (Or.inl ⟨by rfl,fun wx _=>by have h8:=wr0;go_simp⟩) g0 ?_;simp only[Act.put,List.setIfInBounds_toArray,List.set_cons_zero,List.set_cons_succ];refine Ad (i:=3) (oi:={dst:=some 19,op:=Op.move (Operand.tmp 1),type:=9,pos:= "pair.go:94",after:= #[],guard:=none}) (v:= .string (AH id n)) rfl (by kernel_rfl) (by kernel_rfl) (by kernel_rfl) (fun _ _ _ h=>h) (by decide) (by kernel_rfl) (Or.inl ⟨by rfl,fun wx _=>by go_simp⟩) g0 ?_;simp only[Act.put,List.setIfInBounds_toArray,List.set_cons_zero,List.set_cons_succ];refine Ad (i:=4) (oi:={dst:=some 20,op:=Op.move (Operand.tmp 6),type:=3,pos:= "pair.go:94",after:= #[],guard:=none}) (v:= .int .i64 (j:Nat)) rfl (by kernel_rfl) (by kernel_rfl) (by kernel_rfl) (fun _ _ _ h=>h) (by decide) (by kernel_rfl) (Or.inl ⟨by rfl,fun wx _=>by go_simp⟩) g0 ?_;simp only[Act.put,List.setIfInBounds_toArray,List.set_cons_zero,List.set_cons_succ];refine Ad (i:=5) (oi:={dst:=some 21,op:=Op.binOp BinOp.add 3 (Operand.const (Value.int IntKind.i64 1)) (Operand.tmp 20) 3,type:=3,pos:= "pair.go:94",after:= #[{on:=4,ground:=Ground.data}],guard:=none}) (v:= .int .i64 (1+(j:Int))) rfl (by kernel_rfl) (by kernel_rfl) (by kernel_rfl) (fun _ _ _ h=>h) (by decide) (by kernel_rfl) (Or.inl ⟨by rfl,fun wx _=>by have h8:=wr1;go_simp⟩) g0 ?_;simp only[Act.put,List.setIfInBounds_toArray,List.set_cons_zero,List.set_cons_succ];refine Ad (i:=6) (oi:={dst:=some 22,op:=Op.index 9 (Operand.tmp 19) (Operand.tmp 21),type:=5,pos:= "pair.go:94",after:= #[{on:=3,ground:=Ground.data},{on:=5,ground:=Ground.data}],guard:=none}) (v:= .int .u8 (nxB n j)) rfl (by kernel_rfl) (by kernel_rfl) (by kernel_rfl) (fun _ _ _ h=>h) (by decide) (by kernel_rfl) (Or.inl ⟨by rfl,fun wx _=>by have h8:=hbt wx;go_simp⟩) g0 ?_;simp only[Act.put,List.setIfInBounds_toArray,List.set_cons_zero,List.set_cons_succ];refine Ad (i:=7) (oi:={dst:=some 23,op:=Op.convert 5 3 (Operand.tmp 22),type:=3,pos:= "pair.go:94",after:= #[{on:=6,ground:=Ground.data}],guard:=none}) (v:= .int .i64 (nxB n j)) rfl (by kernel_rfl) (by kernel_rfl) (by kernel_rfl) (fun _ _ _ h=>h) (by decide) (by kernel_rfl) (Or.inl ⟨by rfl,fun wx _=>by have h8:=hcv;go_simp⟩) g0 ?_;simp only[Act.put,List.setIfInBounds_toArray,List.set_cons_zero,List.set_cons_succ];refine Ad (i:=8) (oi:={dst:=some 24,op:=Op.binOp BinOp.or 3 (Operand.tmp 18) (Operand.tmp 23) 3,type:=3,pos:= "pair.go:94",after:= #[{on:=2,ground:=Ground.data},{on:=7,ground:=Ground.data}],guard:=none}) (v:= .int .i64 (nxB n j)) rfl (by kernel_rfl) (by kernel_rfl) (by kernel_rfl) (fun _ _ _ h=>h) (by decide) (by kernel_rfl) (Or.inl ⟨by rfl,fun wx _=>by have h8:=hor;go_simp⟩) g0 ?_;simp only[Act.put,List.setIfInBounds_toArray,List.set_cons_zero,List.set_cons_succ];refine Ad (i:=9) (oi:={dst:=some 25,op:=Op.fieldAddr 92 (Operand.tmp 5) 1,type:=0,pos:= "pair.go:94",after:= #[{on:=0,ground:=Ground.phase},{on:=1,ground:=Ground.phase},{on:=2,ground:=Ground.phase},{on:=3,ground:=Ground.phase},{on:=4,ground:=Ground.phase},{on:=5,ground:=Ground.phase},{on:=6,ground:=Ground.phase},{on:=7,ground:=Ground.phase},{on:=8,ground:=Ground.phase}],guard:=none}) (v:= .pointer (some ⟨w.heap.size+1,1,none⟩)) rfl (by kernel_rfl) (by kernel_rfl) (by kernel_rfl) (fun _ _ _ h=>h) (by decide) (by kernel_rfl) (Or.inl ⟨by rfl,fun wx _=>by go_simp⟩) g0 ?_;simp only[Act.put,List.setIfInBounds_toArray,List.set_cons_zero,List.set_cons_succ];refine Di (o:={dst:=none,op:=Op.store 3 (Operand.tmp 25) (Operand.tmp 24),type:=0,pos:= "pair.go:94",after:= #[{on:=9,ground:=Ground.data},{on:=8,ground:=Ground.data},{on:=0,ground:=Ground.phase},{on:=1,ground:=Ground.phase},{on:=2,ground:=Ground.phase},{on:=3,ground:=Ground.phase},{on:=4,ground:=Ground.phase},{on:=5,ground:=Ground.phase},{on:=6,ground:=Ground.phase},{on:=7,ground:=Ground.phase},{on:=8,ground:=Ground.phase}],guard:=none}) (by kernel_rfl) (by kernel_rfl) rfl (by rfl) (fun K hK=> ?_);have c1:=g0;have c2:=C2.out
   go_simp
   refine hK.out _ _ ?_;clear hK K
   try simp only[Act.put,List.setIfInBounds_toArray,List.set_cons_zero,List.set_cons_succ]
   go_wp2_with fail;go_roundw
   case rel=>
    refine⟨j+1,by omega,by go_num,HV4.out.drew.far (by omega),?_,(HB.out.drew).setCell (by show w.heap.size<=w.heap.size+1;omega) _⟩;have:=HV5.out.drew.set 1 (.int .i64 (nxB n j));show Ac _ _ _;have e:(if j+1=8 then(n:Int)else 0)=nxB n j:=by unfold nxB;simp
    rw[e];exact this
   case measure=>simp[intOf];omega
  ·have h1:¬(j:Int)<8:=by omega
   obtain rfl:j=8:=by omega
   obtain⟨c0,c1,c2,c3,c4⟩:=HV5.out.c5;have f0:=HV4.out.free 0;have f1:=HV4.out.free 1;have f2:=HV4.out.free 2;have f3:=HV4.out.free 3;have f4:=HV4.out.free 4;obtain⟨d0,d1,d2,d3,d4⟩:=HV4.out.c5;go_wp2;exact bodyPost_ret (v:= .agg #[.int .i64 (id:Nat),.int .i64 (n:Nat),.string nm,.slice none 0 0,.slice none 0 0]) (Ax Tryz.results110 _ _ _ rfl (G6 (((((HV4.out.set 0 _).set 1 _).set 2 _).set 3 _).set 4 _))) rfl ⟨rfl,((((HB.out.setCell (Nat.le_refl _) _).setCell (Nat.le_refl _) _).setCell (Nat.le_refl _) _).setCell (Nat.le_refl _) _).setCell (Nat.le_refl _) _⟩
def Cur (L:List Tb) (k:Nat) (S:List Tb):Prop:=(k=0/\S=[])\/∃A t j R,L=A++t::R/\j<=t.cs.length/\k=(A.flatMap Tb.prs).length+1+j/\S=A++[⟨t.id,t.nm,t.cs.take j,t.nx⟩]
theorem Cur.next {L S:List Tb} {k:Nat} (h:Cur L k S) (hk:k<(L.flatMap Tb.prs).length):
  (∃t∈L,(L.flatMap Tb.prs)[k]? =some ⟨Ap t.nm,AH t.id t.nx⟩/\Cur L (k+1) (S++[⟨t.id,t.nm,[],t.nx⟩]))\/
  (∃A t j,∃hj:j<t.cs.length,t∈L/\S=A++[⟨t.id,t.nm,t.cs.take j,t.nx⟩]/\(L.flatMap Tb.prs)[k]? =some ⟨Bv t.nm j,AU t.cs[j]⟩/\Cur L (k+1) (A++[⟨t.id,t.nm,t.cs.take j++[t.cs[j]],t.nx⟩])):=by
 rcases h with⟨rfl,rfl⟩|⟨A,t,j,R,rfl,hj,rfl,rfl⟩
 ·cases L with
  |nil=>simp at hk
  |cons t R=>
   refine .inl ⟨t,by simp,?_,.inr ⟨[],t,0,R,rfl,Nat.zero_le _,by simp,by simp⟩⟩;rw[List.flatMap_cons];unfold Tb.prs;simp
 ·have hfl:(A++t::R).flatMap Tb.prs=A.flatMap Tb.prs++(t.prs++R.flatMap Tb.prs):=by rw[List.flatMap_append,List.flatMap_cons]
  rw[hfl]at hk ⊢
  by_cases hlt:j<t.cs.length
  ·refine .inr ⟨A,t,j,hlt,by simp,rfl,?_,.inr ⟨A,t,j+1,R,rfl,hlt,by omega,?_⟩⟩
   ·rw[List.getElem?_append_right (by omega),show(A.flatMap Tb.prs).length+1+j-(A.flatMap Tb.prs).length=j+1 by omega,List.getElem?_append_left (by rw[Co];omega)]
    unfold Tb.prs;rw[List.getElem?_cons_succ,Hh t.cs 0 j hlt,Nat.zero_add]
   ·rw[List.take_succ_eq_append_getElem hlt]
  ·obtain rfl:j=t.cs.length:=by omega
   cases R with
   |nil=>
    rw[List.length_append,List.length_append,Co]at hk;simp at hk;omega
   |cons t' R'=>
    refine .inl ⟨t',by simp,?_,.inr ⟨A++[t],t',0,R',by simp,Nat.zero_le _,?_,?_⟩⟩
    ·rw[List.getElem?_append_right (by omega),show(A.flatMap Tb.prs).length+1+t.cs.length-(A.flatMap Tb.prs).length=t.prs.length by rw[Co];omega,List.getElem?_append_right (Nat.le_refl _),Nat.sub_self,List.flatMap_cons]
     unfold Tb.prs;simp
    ·rw[List.flatMap_append,List.length_append,List.flatMap_singleton,Co];omega
    ·rw[List.take_length];simp
theorem Cur.done {L S:List Tb} (h:Cur L (L.flatMap Tb.prs).length S):S=L:=by
 rcases h with⟨h0,rfl⟩|⟨A,t,j,R,rfl,hj,h1,rfl⟩
 ·cases L with
  |nil=>rfl
  |cons t R=>
   rw[List.flatMap_cons,List.length_append,Co]at h0;omega
 ·rw[List.flatMap_append,List.flatMap_cons,List.length_append,List.length_append,Co]at h1
  have hR:R=[]:=by
   cases R with
   |nil=>rfl
   |cons t' R'=>
    rw[List.flatMap_cons,List.length_append,Co]at h1;omega
  subst hR;obtain rfl:j=t.cs.length:=by simp at h1;omega
  rw[List.take_length]
theorem RT (cs:List Col) (c:Col):ixs (cs++[c])=ixs cs++(if c.ix then [c.nm]else []):=by
 unfold ixs;rw[List.filter_append,List.map_append]
 cases h:c.ix<;>simp[h]
theorem Sp {m:Int} (nm:ByteArray) (h0:(0:UInt8)∉nm.data.toList) (hs:nm.size<=1000) (w:World) (hm:w.cell? ⟨1,0,none⟩=some (.int .i64 m)):
  Calls Tryz.prog 97 #[.string (Ap nm),.string ⟨#[0]⟩] w fun e w'=>e= .returned (.tuple #[.string nm,.string ⟨#[]⟩,.bool true])/\Below w.heap.size w w':=by
 refine(Tryz.strings_Cut (Ap nm) ⟨#[0]⟩ m w (by rw[Be];omega) hm).mono ?_;rintro e w' ⟨he,n,rfl⟩
 have hc:Lib.cut (Ap nm).data.toList (⟨#[0]⟩:ByteArray).data.toList=(nm.data.toList,[],true):=by
  rw[C9];exact GE _ _ h0
 rw[hc]at he;exact⟨he,A4 (Below.refl _ _) n⟩
theorem TM {m:Int} (nm:ByteArray) (j:Nat) (h0:(0:UInt8)∉nm.data.toList) (hs:nm.size<=1000) (w:World) (hm:w.cell? ⟨1,0,none⟩=some (.int .i64 m)):
  Calls Tryz.prog 97 #[.string (Bv nm j),.string ⟨#[0]⟩] w fun e w'=>e= .returned (.tuple #[.string nm,.string ⟨#[Aq ((j:Int)+1)]⟩,.bool true])/\Below w.heap.size w w':=by
 refine(Tryz.strings_Cut (Bv nm j) ⟨#[0]⟩ m w (by rw[CF];omega) hm).mono ?_;rintro e w' ⟨he,n,rfl⟩
 have hc:Lib.cut (Bv nm j).data.toList (⟨#[0]⟩:ByteArray).data.toList=(nm.data.toList,[Aq ((j:Int)+1)],true):=by
  rw[D8];exact GE _ _ h0
 rw[hc]at he;exact⟨he,A4 (Below.refl _ _) n⟩
theorem AI.base {B B':Nat} {v:Value} {E:List Ent} {w:World} (h:AI B v E w) (hb:B'<=B):AI B' v E w:=
 ⟨AE h.row hb,fun x hx=>⟨AE (h.cs x hx).1 hb,AE (h.cs x hx).2 hb⟩,h.ap⟩
theorem AI.nil (B:Nat) (w:World):AI B (.slice none 0 0) [] w:=⟨World.ownsRow_nil _ _ _ _,fun x hx=>(by cases hx),by simp⟩
theorem UR:∃i0:TypeInfo,Tryz.prog.info? 92=some i0/\i0.zero=some (.agg #[.int .i64 0,.int .i64 0,.string ⟨#[]⟩,.slice none 0 0,.slice none 0 0])/\i0.size=5/\i0.bytes=80:=by
 have h:(Tryz.prog.info? 92).map (fun i=>(i.zero,i.size,i.bytes))=some (some (.agg #[.int .i64 0,.int .i64 0,.string ⟨#[]⟩,.slice none 0 0,.slice none 0 0]),5,80):=by kernel_rfl
 cases hq:Tryz.prog.info? 92 with
 |none=>rw[hq]at h;simp at h
 |some i=>rw[hq]at h;simp at h;exact⟨i,rfl,h.1,h.2.1,h.2.2⟩
section
variable {bc bt bp:Nat} {bd:Sts} {bm N Z:Nat} {up:Nat->Bool} {V:Pst} {T:Tr} {w:World}
set_option maxHeartbeats 4000000
theorem KR (h:Fs bc bt bp bd bm N up V T w) {m:Int} (hm:w.cell? ⟨1,0,none⟩=some (.int .i64 m)) (beg:ByteArray) {L:List Tb} (hL:∀t∈L,t.Ok) (hps:Bd (pfx beg) beg 0 T.all=L.flatMap Tb.prs) (hLl:L.length<=100):
  Calls Tryz.prog 54 #[.pointer (some ⟨bc,0,none⟩),.string beg] w fun e w'=>∃v E,e= .returned (.tuple #[v,.nilIface])/\AI w.heap.size v E w'/\E.map (·.t)=L/\(∀x∈E,x.is_=ixs x.t.cs)/\Below w.heap.size w w':=by
 have HC:Hid (Fs bc bt bp bd bm N up V T w):=h;have HPS:Hid _:=hps;have HL:Hid _:=hL;have HM:Hid _:=hm;have q0:=h.c.cell;obtain⟨i0,hi0,hz0,hz1,hz2⟩:=UR
 have hps1:(L.flatMap Tb.prs).length<=1000:=by
  have:∀(L:List Tb),(∀t∈L,t.Ok)->(L.flatMap Tb.prs).length<=7 * L.length:=by
   intro L
   induction L with
   |nil=>intro _;simp
   |cons t R ih=>
    intro hL;have h1:=ih (fun s hs=>hL s (by simp[hs]));have h2:=(hL t (by simp)).cs;rw[List.flatMap_cons,List.length_append,Co,List.length_cons];omega
  have:=this L hL;omega
 clear h hps hL hm;go_enter Tryz.func54,Tryz.ntmps54;go_wp2_with fail;refine(ED _ HC.out.t HC.out.tw HC.out.a beg).mono ?_;rintro _ w2 ⟨v2,rfl,hr2,hb2⟩;rw[HPS.out]at hr2;obtain⟨a9,c9,hv9⟩:=Aj hr2;obtain⟨ps,hpp⟩:∃ps,L.flatMap Tb.prs=ps:=⟨_,rfl⟩;have HPP:Hid _:=hpp;rw[hpp]at hr2 hps1 hv9;obtain⟨n,hn⟩:∃n,ps.length=n:=⟨_,rfl⟩;have HN:Hid _:=hn;rw[hn]at hv9 hps1;subst hv9;have HR:Hid (BU w.heap.size (.slice a9 n c9) ps w2):=hr2;have HB:Hid (Below w.heap.size w w2):=hb2;have HM2:Hid (w2.cell? ⟨1,0,none⟩=some (.int .i64 m)):=Ae hb2 HM.out;clear hr2 hb2 q0 HC HPS hpp hn HM;go_wp2_with fail;go_loopw [8,28] (fun l i wr=>∃(k:Nat) (E:List Ent),k<=n/\i= .int .i64 (k:Nat)/\Hid (AI w2.heap.size l E wr)/\Hid (Cur L k (E.map (·.t)))/\Hid (∀x∈E,x.is_=ixs x.t.cs)/\Hid (Below w2.heap.size w2 wr)) (fun _ i _=>n+1-(intOf i).toNat)
 case atStart=>exact⟨0,[],Nat.zero_le _,rfl,AI.nil _ _,.inl ⟨rfl,rfl⟩,(fun x hx=>(by cases hx):∀x∈([]:List Ent),x.is_=ixs x.t.cs),Below.refl _ _⟩
 case round=>
  obtain⟨k,E,hk,rfl,HE,HCU,HIS,HBW⟩:=hrel
  by_cases hlt:k<n
  ·have h1:(k:Int)<(n:Int):=by omega
   have hkl:k<ps.length:=by rw[HN.out];exact hlt
   have hRw:BU w.heap.size (.slice a9 n c9) ps wr:=Ag HR.out HBW.out;obtain⟨g,hg,k1,k2,hix⟩:=hRw.at hkl;have hnx:=HCU.out.next (by rw[HPP.out];exact hkl);rw[HPP.out,List.getElem?_eq_getElem hkl]at hnx;have HMW:Hid (∀x y:ByteArray,(wr.alloc (.cells #[.string x,.string y] 126)).cell? ⟨1,0,none⟩=some (.int .i64 m)):=fun x y=>Ae ((Below.refl _ wr).alloc (Nat.le_refl _) _) (Ae HBW.out HM2.out);clear hRw;rcases hnx with⟨t,htL,hkey,hcu⟩|⟨A,t,j,hj,htL,hS,hkey,hcu⟩
   ·have hkey':=Option.some.inj hkey
    rw[hkey']at k1 k2;simp only at k1 k2;have htk:=HL.out t htL;have hn0:=F0 htk.nm;have hns:=Bg htk.nm;have hid:=htk.id;have hnx9:=htk.nx;have hsz:=He t.id t.nx;have HCU2:Hid (Cur L (k+1) (E.map (·.t)++[⟨t.id,t.nm,[],t.nx⟩])):=hcu
    have HEL:Hid (E.length<=1000):=by
     have hq:∀(S:List Tb),Cur L k S->S.length<=101:=by
      rintro S (⟨_,rfl⟩|⟨A,t,j,R,e,_,_,rfl⟩)
      ·simp
      ·rw[e]at hLl;simp at hLl ⊢;omega
     have:=hq _ HCU.out;rw[List.length_map]at this;show _<=_;omega
    have HCH:Hid _:=Sp t.nm hn0 (by omega) _ (HMW.out (Ap t.nm) (AH t.id t.nx));clear hkey hkey' hcu htk hn0;go_wp2_with fail;refine(show Calls _ _ _ _ _ from HCH.out).mono ?_;rintro _ w3 ⟨rfl,hb3⟩;have HBA:Hid (Below wr.heap.size wr (wr.alloc (.cells #[.string (Ap t.nm),.string (AH t.id t.nx)] 126))):=(Below.refl _ wr).alloc (Nat.le_refl _) _;have HV3:Hid (Ac wr.heap.size [.string (Ap t.nm),.string (AH t.id t.nx)] w3):=(Ac.new wr #[.string (Ap t.nm),.string (AH t.id t.nx)] 126 (by simp)).below hb3;have HB3:Hid (Below wr.heap.size wr w3):=HBA.out.trans (hb3.mono HBA.out.size);have d0:=HV3.out.cell 0 (by simp);have d1:=HV3.out.cell 1 (by simp);simp only[List.getElem_cons_zero,List.getElem_cons_succ]at d0 d1;clear hb3 HBA k1 k2 HCH;go_wp2_with fail;refine(M7 t.nm t.id t.nx (by omega) (by omega) _).mono ?_;rintro _ w4 ⟨rfl,hb4⟩;have HB4:Hid (Below wr.heap.size wr w4):=HB3.out.trans (hb4.mono HB3.out.size);have hbC:Below w4.heap.size w4 (w4.alloc (.cells #[.int .i64 (t.id:Nat),.int .i64 (t.nx:Nat),.string t.nm,.slice none 0 0,.slice none 0 0] 92)):=(Below.refl _ _).alloc (Nat.le_refl _) _;have HE5:Hid (AI w2.heap.size u8 E (w4.alloc (.cells #[.int .i64 (t.id:Nat),.int .i64 (t.nx:Nat),.string t.nm,.slice none 0 0,.slice none 0 0] 92))):=(HE.out.below HB4.out).below hbC;have HB5:Hid (Below w2.heap.size w2 (w4.alloc (.cells #[.int .i64 (t.id:Nat),.int .i64 (t.nx:Nat),.string t.nm,.slice none 0 0,.slice none 0 0] 92))):=(HBW.out.trans (HB4.out.mono HBW.out.size)).trans (hbC.mono (Nat.le_trans HBW.out.size HB4.out.size));clear hb4 hbC d0 d1
    go_wp2_with (at_builtin;refine wpList_append_lies _ rfl _ _ 137 rfl w2.heap.size 92 i0 (.agg #[.int .i64 0,.int .i64 0,.string ⟨#[]⟩,.slice none 0 0,.slice none 0 0]) 5 80 Tryz.underlying137 hi0 hz0 hz1 hz2 rfl (by decide) _ _ _ rfl HE5.out.row ⟨w4.heap.size,0,none⟩ 1 1 [.int .i64 (t.id:Nat),.int .i64 (t.nx:Nat),.string t.nm,.slice none 0 0,.slice none 0 0] rfl rfl (Ug w4 #[.int .i64 (t.id:Nat),.int .i64 (t.nx:Nat),.string t.nm,.slice none 0 0,.slice none 0 0] 92) (by intro u hu;simp at hu;rcases hu with rfl|rfl|rfl|rfl|rfl<;>rfl) (by decide) (by have:=HEL.out;simp only[maxLen];omega) (by have:=HEL.out;omega) HB5.out.size _ rfl ?_;intro g' cap' w' hO hG hat hlt')
    refine⟨⟨k+1,E++[⟨⟨t.id,t.nm,[],t.nx⟩,[],.slice none 0 0,.slice none 0 0⟩],by omega,by go_num,?_,?_,?_,?_⟩,by simp[intOf];omega⟩
    ·exact HE5.out.more rfl hG hO (fun b hb=>by
      simp only[Value.ownBlock,Option.some.injEq]at hb;subst hb;rcases hat with e|e
      ·exact .inl e
      ·exact .inr (Nat.le_of_eq e.symm))
    ·show Cur _ _ _
     rw[List.map_append];exact HCU2.out
    ·intro x hx
     rcases List.mem_append.1 hx with hx|hx
     ·exact HIS.out x hx
     ·obtain rfl:=List.mem_singleton.1 hx;rfl
    ·exact HB5.out.grown hG HB5.out.size (fun b e=>(World.ownsRow.lt HE5.out.row b e).1)
   ·have hkey':=Option.some.inj hkey
    rw[hkey']at k1 k2;simp only at k1 k2;have htk:=HL.out t htL;have hn0:=F0 htk.nm;have hns:=Bg htk.nm;have hcok:=htk.col t.cs[j] (List.getElem_mem hj);have hcs:=Bg hcok.nm;have hckd:t.cs[j].kd<256:=by rcases hcok.kd with e|e<;>omega
    have hjl:=htk.cs;have HCU2:Hid (Cur L (k+1) (A++[⟨t.id,t.nm,t.cs.take j++[t.cs[j]],t.nx⟩])):=hcu;obtain⟨E0,E1,hE01,hA,hE1⟩:=List.map_eq_append_iff.1 hS
    obtain⟨x,hx1,hx2⟩:∃x,E1=[x]/\x.t=⟨t.id,t.nm,t.cs.take j,t.nx⟩:=by
     cases E1 with
     |nil=>simp at hE1
     |cons x r=>
      simp at hE1;obtain⟨h1,h2⟩:=hE1;subst h2;exact⟨x,rfl,h1⟩
    subst hx1;have HXT:Hid _:=hx2;have HA0:Hid _:=hA;obtain⟨n1,hn1⟩:∃n1,E0.length=n1:=⟨_,rfl⟩;have HE6:Hid (AI w2.heap.size u8 (E0++[x]) wr):=by rw[<-hE01];exact HE.out
    have HIS6:Hid (∀y∈E0++[x],y.is_=ixs y.t.cs):=by rw[<-hE01];exact HIS.out
    obtain⟨g8,cap8,hu8,hg81,hg82⟩:=World.ownsRow.form HE6.out.row (by simp);have HN1:Hid _:=hn1;rw[List.length_append,hn1]at hu8;simp only[List.length_singleton]at hu8;subst hu8;have hix8:=fun wx=>Cd Tryz.underlying137 Sk Rg g8 (n1+1) cap8 n1 (by omega) wx
    have hwn:IntKind.i64.wrap (n1:Int)=(n1:Int):=by
     have hmx:=Lt HE6.out.row;rw[List.length_append,hn1]at hmx;simp only[List.length_singleton]at hmx;exact Br _ (by omega) (by omega)
    obtain⟨c,hc⟩:∃c,t.cs[j]=c:=⟨_,rfl⟩;rw[hc]at k2 hcs hckd HCU2;have hcsz:=CZ c;have hgt:(4:Int)<((AU c).size:Int):=by omega
    have hn9:¬((AU c).size:Int)=9\/True:= .inr trivial;have HCC:Hid _:=TM t.nm j hn0 (by omega) _ (HMW.out (Bv t.nm j) (AU c));obtain⟨K2,hK2⟩:∃K2:ByteArray,(⟨#[Aq ((j:Int)+1)]⟩:ByteArray)=K2:=⟨_,rfl⟩;have i3:¬K2.toList=[]:=by rw[<-hK2,ByteArray.toList_eq];simp
    have i4:K2.toList.isEmpty=false:=by
     cases e:K2.toList with
     |nil=>exact absurd e i3
     |cons a b=>rfl
    rw[hK2]at HCC;obtain⟨KK,hKK⟩:∃KK,Bv t.nm j=KK:=⟨_,rfl⟩;rw[hKK]at HCC k1;obtain⟨CI,hCI⟩:∃CI,AU c=CI:=⟨_,rfl⟩;rw[hCI]at HCC k2 hgt hcsz;have HCI:Hid _:=hCI;clear hkey hkey' hcu htk hn0 hS hE1 hA hx2 hcok hKK hCI hK2 hc hn9 HIS HE;go_wp2_with fail;refine(show Calls _ _ _ _ _ from HCC.out).mono ?_;rintro _ w3 ⟨rfl,hb3⟩;have HBA:Hid (Below wr.heap.size wr (wr.alloc (.cells #[.string KK,.string CI] 126))):=(Below.refl _ wr).alloc (Nat.le_refl _) _;have HV3:Hid (Ac wr.heap.size [.string KK,.string CI] w3):=(Ac.new wr #[.string KK,.string CI] 126 (by simp)).below hb3;have HB3:Hid (Below wr.heap.size wr w3):=HBA.out.trans (hb3.mono HBA.out.size);have d0:=HV3.out.cell 0 (by simp);have d1:=HV3.out.cell 1 (by simp);simp only[List.getElem_cons_zero,List.getElem_cons_succ]at d0 d1;clear hb3 HBA k1 k2 HCC;have HEX:Hid (x.is_=ixs x.t.cs):=HIS6.out x (by simp)
    have HXL:Hid (x.t.cs.length<=1000/\x.is_.length<=1000):=by
     have e1:x.t.cs.length<=6:=by rw[HXT.out];simp only[List.length_take];omega
     have e2:x.is_.length<=x.t.cs.length:=by rw[HEX.out];unfold ixs;rw[List.length_map];exact List.length_filter_le _ _
     exact⟨by omega,by omega⟩
    have HBD:Hid (Below w2.heap.size w2 w3.drew):=(HBW.out.trans (HB3.out.mono HBW.out.size)).drew
    have HRC:Hid (Calls Tryz.prog 111 #[.pointer (some ⟨g8,5 * n1+2,none⟩),.string CI] w3.drew fun e w'=>e= .returned (.tuple #[])/\∃x',AI w2.heap.size (.slice (some ⟨g8,0,none⟩) (n1+1) cap8) (E0++[x']) w'/\x'.t=⟨x.t.id,x.t.nm,x.t.cs++[c],x.t.nx⟩/\x'.is_=x.is_++(if c.ix then [c.nm]else [])/\Aa (fun b=>b=g8\/x.vc.ownBlock=some b\/x.vi.ownBlock=some b) w3.drew w'):=by
     show Calls _ _ _ _ _;rw[<-HCI.out,<-HN1.out];refine IZ w3.drew ?_ rfl HXL.out.1 HXL.out.2 c hckd (by omega) HBD.out.size;rw[HN1.out];exact(HE6.out.below HB3.out).below (Below.refl _ _).drew
    have HFAR:Hid (¬(wr.heap.size=g8\/x.vc.ownBlock=some wr.heap.size\/x.vi.ownBlock=some wr.heap.size)):=by
     have hxm:x∈E0++[x]:=by simp
     rintro(e|e|e)
     ·omega
     ·have:=(World.ownsRow.lt (HE6.out.cs x hxm).1 _ e).2;omega
     ·have:=(World.ownsRow.lt (HE6.out.cs x hxm).2 _ e).2;omega
    have HLOW:Hid (∀b,(b=g8\/x.vc.ownBlock=some b\/x.vi.ownBlock=some b)->w2.heap.size<=b):=by
     have hxm:x∈E0++[x]:=by simp
     rintro b (e|e|e)
     ·omega
     ·exact(World.ownsRow.lt (HE6.out.cs x hxm).1 _ e).1
     ·exact(World.ownsRow.lt (HE6.out.cs x hxm).2 _ e).1
    have D0:Hid (w3.drew.cell? ⟨wr.heap.size,1,none⟩=some (.string CI)):=d1;have hwr:=HV3.out.lt;go_wp2_with fail;clear d0 d1
    go_region_held3 (fun wx=>wx.cell? ⟨wr.heap.size,1,none⟩=some (.string CI)) (first|exact D0.out|exact D1.out) (first|(go_at_call 111;refine(show Calls _ _ _ _ _ from HRC.out).mono ?_;rintro _ w4 ⟨rfl,x',hx1,hx2,hx3,hx4⟩;have HX1:Hid (AI w2.heap.size (.slice (some ⟨g8,0,none⟩) (n1+1) cap8) (E0++[x']) w4):=hx1;have HX2:Hid (x'.t=⟨x.t.id,x.t.nm,x.t.cs++[c],x.t.nx⟩):=hx2;have HX3:Hid (x'.is_=x.is_++(if c.ix then [c.nm]else [])):=hx3;have HX4:Hid (Aa (fun b=>b=g8\/x.vc.ownBlock=some b\/x.vi.ownBlock=some b) w3.drew w4):=hx4;have D1:Hid (w4.cell? ⟨wr.heap.size,1,none⟩=some (.string CI)):=(hx4.cell (World.block_lt_of_cell? _ _ D0.out) (fun e=>HFAR.out e) 1).trans D0.out;clear hx1 hx2 hx3 hx4))
    go_wp2_with fail;go_roundw
    case rel=>
     refine⟨k+1,E0++[x'],by omega,by go_num,HX1,?_,?_,Aa.below HBD.out HX4.out HBD.out.size (fun b e=>HLOW.out b e)⟩
     ·show Cur _ _ _
      rw[List.map_append,HA0.out,List.map_singleton,HX2.out,HXT.out];exact HCU2.out
     ·intro y hy
      rcases List.mem_append.1 hy with hy|hy
      ·exact HIS6.out y (by simp[hy])
      ·obtain rfl:=List.mem_singleton.1 hy
       rw[HX3.out,HX2.out,HEX.out,RT]
    case measure=>simp[intOf];omega
  ·have h1:¬(k:Int)<(n:Int):=by omega
   obtain rfl:n=k:=by omega
   go_wp2;go_ret2;refine⟨_,rfl,E,HE.out.base HB.out.size,?_,HIS.out,HB.out.trans (HBW.out.mono HB.out.size)⟩;have:=HCU.out;rw[<-HN.out,<-HPP.out]at this;exact this.done
end
theorem T9 {B:Nat} {n:Int} (w:World) (h:w.cell? ⟨B,0,none⟩=some (.int .i64 n)) (id next:Int) (name:ByteArray) (cs is_:Value) (a1 a2:Option Addr) (l1 c1 l2 c2:Nat) (e1:cs= .slice a1 l1 c1) (e2:is_= .slice a2 l2 c2):
  Calls Tryz.prog 113 #[.agg #[.int .i64 id,.int .i64 next,.string name,cs,is_],.pointer (some ⟨B,0,none⟩)] w fun e w'=>e= .returned (.bool (id == n))/\Below w.heap.size w w':=by
 subst e1 e2;have hlt:=World.block_lt_of_cell? w _ h;have hb:Below w.heap.size w (w.alloc (.cells #[.int .i64 id,.int .i64 next,.string name,.slice a1 l1 c1,.slice a2 l2 c2] 92)):=(Below.refl _ w).alloc (Nat.le_refl _) _;have q0:=(hb.cell (p:=⟨B,0,none⟩) hlt).trans h;have HB:Hid _:=hb;clear hb h;go_enter Tryz.func113,Tryz.ntmps113;go_wp2;go_ret;exact⟨rfl,HB.out⟩
theorem Q8 {B:Nat} {nm:ByteArray} (w:World) (h:w.cell? ⟨B,0,none⟩=some (.string nm)) (id next:Int) (name:ByteArray) (cs is_:Value) (a1 a2:Option Addr) (l1 c1 l2 c2:Nat) (e1:cs= .slice a1 l1 c1) (e2:is_= .slice a2 l2 c2):
  Calls Tryz.prog 56 #[.agg #[.int .i64 id,.int .i64 next,.string name,cs,is_],.pointer (some ⟨B,0,none⟩)] w fun e w'=>e= .returned (.bool (name.toList == nm.toList))/\Below w.heap.size w w':=by
 subst e1 e2;have hlt:=World.block_lt_of_cell? w _ h;have hb:Below w.heap.size w (w.alloc (.cells #[.int .i64 id,.int .i64 next,.string name,.slice a1 l1 c1,.slice a2 l2 c2] 92)):=(Below.refl _ w).alloc (Nat.le_refl _) _;have q0:=(hb.cell (p:=⟨B,0,none⟩) hlt).trans h;have HB:Hid _:=hb;clear hb h;go_enter Tryz.func56,Tryz.ntmps56;go_wp2;go_ret;exact⟨rfl,HB.out⟩
end
end Go.Proofs.YtihnldkgeelehaaGreatDoor
