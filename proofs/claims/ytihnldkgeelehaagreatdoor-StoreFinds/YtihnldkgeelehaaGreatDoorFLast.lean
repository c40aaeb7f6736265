/- The store, what is there is found: for every list of at most fifty changes (longer ones the statement leaves out) and every two values the function StoreFinds of the package concordancekeep returns true, and leaves the list as it was. The package variables word.ends, errors.errorType, internal/strconv.uint64pow10, math/bits.deBruijn32tab and math/bits.deBruijn64tab read as they are laid (tied); internal/bytealg.MaxLen is any number. The seat is set up under MEM=40000 GROUP=1 (two types of the pager want the lid raised); this text and those below it build under the lid that the others have. -/
import Derived.Test.YtihnldkgeelehaaGreatDoorF43
set_option maxRecDepth 100000
set_option maxHeartbeats 4000000
namespace Go.Proofs.YtihnldkgeelehaaGreatDoor
section
open Go.ChangeShapes Go.WideShapes Go.ChangeAt Go.RowKit
open Go.ChangeMaps (open_string shut_string)
theorem QU {H:Type} {enc:TypeId×Value->H} {W:World} {base:Nat} {v:Value} {d:DataW H} {p:List MemPlace} {spare:Nat->Bool} {held:Bool} (hv:Value.okWide Tryz.prog W .any base 24 v) (h:DataW.Trod enc Tryz.prog W 0 spare held 24 v d p):∃x:Vl,v= .agg #[.int .i64 x.k,.int .i64 x.n,.string x.s]/\x.s.size<=maxLen:=by
 obtain⟨c0,c1,c2,y0,y1,y2,m,rfl,rfl,rfl,h0,h1,h2⟩:=Go.Joins.open_agg3 Tryz.underlying24 (by kernel_rfl) Pb hv h;obtain⟨k,e0,_,_⟩:=DataW.trod_int Tryz.underlying3 h0;obtain⟨i,e1,_,_⟩:=DataW.trod_int Tryz.underlying2 h1;obtain⟨s,e2,_,w2⟩:=DataW.trod_string Tryz.underlying9 h2;simp at e0 e1 e2;subst e0 e1 e2;exact⟨⟨k,i,s⟩,rfl,w2⟩
def ch0:Chg:=⟨0,0,⟨0,0,⟨#[]⟩⟩,⟨0,0,⟨#[]⟩⟩⟩
theorem U1 {H:Type} {enc:TypeId×Value->H} {W:World} {held:Bool} {a:Option Addr} {len cap:Nat} {d:DataW H} {p:List MemPlace}
  (h:DataW.Trod enc Tryz.prog W 0 (fun _=>true) held 22 (.slice a len cap) d p):∃ch,ChA W a len ch:=by
 obtain⟨fuel,hf⟩:=h;rcases Deep.open_slice Tryz.underlying22 hf with⟨hcs,_⟩|⟨ad,l,c,m,n,D,Pl,hcs,_,hl,hm,hmm,_,hx⟩
 ·simp[Value.cells]at hcs
  obtain⟨rfl,rfl,rfl⟩:=hcs;exact⟨fun _=>ch0,fun i hi=>absurd hi (by omega)⟩
 ·simp[Value.cells]at hcs
  obtain⟨rfl,rfl,rfl⟩:=hcs;simp at hmm;subst hmm
  have each:∀i,i<len->∃x:Chg,x.Ok/\∀j,j<8->W.cell? (ad.add (i * 8+j))=(chC x)[j]? :=by
   intro i hi;obtain⟨cs',h1,h2⟩:=hx i (by omega);rw[TQ]at h1;obtain⟨_,hlen,hcell⟩:=World.cells?_some h1;obtain⟨x,rfl,hok⟩:=VJ hlen h2;refine⟨x,hok,fun j hj=> ?_⟩;have c0:=hcell j (by omega);rw[Deep.add_add]at c0
   first|exact c0|simpa using c0
  by_cases h0:len=0
  ·subst h0
   exact⟨fun _=>ch0,fun i hi=>absurd hi (by omega)⟩
  obtain⟨b,off,spot⟩:=ad;obtain⟨x0,_,hx0⟩:=each 0 (by omega);have hx1:W.cell? ((⟨b,off,spot⟩:Addr).add (0 * 8+0))=some (.int .i64 x0.q):=hx0 0 (by omega);have hspot:spot=none:=by simpa [Addr.add]using World.cell?_spot hx1
  subst hspot;have hbl:b<W.heap.size:=by simpa [A6]using World.block_lt_of_cell? W _ hx1
  obtain⟨X,hX⟩:∃X:Nat->Chg,∀i,i<len->(X i).Ok/\∀j,j<8->W.cell? ((⟨b,off,none⟩:Addr).add (i * 8+j))=(chC (X i))[j]? :=by
   refine⟨fun i=>if hi:i<len then Classical.choose (each i hi)else x0,fun i hi=> ?_⟩;simp only[dif_pos hi];exact Classical.choose_spec (each i hi)
  refine⟨X,fun i hi=>⟨(hX i hi).1,b,off,rfl,hbl,fun j hj=> ?_⟩⟩;have:=(hX i hi).2 j hj;rw[A6]at this;rw[Nat.add_assoc];exact this
def Nr:Prop:=∀(w:World) (n0 c0:Nat) (a0:Option Addr) (ch:Nat->Chg) (y z:Vl),ChA w a0 n0 ch->y.s.size<=maxLen->z.s.size<=maxLen->Gl w->
  Calls Tryz.prog 3 #[.slice a0 n0 c0,.agg #[.int .i64 y.k,.int .i64 y.n,.string y.s],.agg #[.int .i64 z.k,.int .i64 z.n,.string z.s]] w fun e w'=>e= .returned (.bool true)/\Below w.heap.size w w'
theorem Su (hwalk:Nr) (H:Type) (enc:TypeId×Value->H) (W:World) (base:Nat) (args:Array Value) (ds gs:List (DataW H)) (before:List MemPlace)
  (hval:∀(j:Nat) t v,Tryz.f3.params[j]? =some t->args[j]? =some v->Value.okWide Tryz.prog W .any base t v)
  (hW:DataW.Whole enc Tryz.prog Tryz.f3.params.toList Rows.storeFindsSpec.vars false W args.toList ds gs before) (hL:laidMetH Tryz.prog Rows.storeFindsRow.laid W) (hsh:W.ShapedOpen Tryz.prog):
  Calls Tryz.prog 3 args W fun e W'=>∃v,e= .returned v/\Rows.storeFindsSpec.post enc Tryz.prog Tryz.f3 false true false false W args v W':=by
 have hW':=hW;obtain⟨p,q,hA0,hV,rfl,hfz,hnd⟩:=hW;have hA:DataW.TrodAll enc Tryz.prog W 0 (fun _=>true) true Tryz.f3.params.toList args.toList ds p:=hA0;rw[Tryz.params3]at hA hval;obtain⟨v0,v1,v2,d0,d1,d2,p0,p1,p2,rfl,rfl,rfl,h0,h1,h2⟩:=trodAll_three hA;obtain⟨rfl,rfl⟩:=trodVars_none hV;obtain⟨a0,len0,cap0,rfl⟩:=okWide_slice Tryz.underlying22 (hval 0 22 v0 rfl rfl);have lt0:∀x∈p0,x.block<W.heap.size:=by obtain⟨m,hm⟩:=h0;exact DataW.trod_lt m _ _ _ hm
 have lt1:∀x∈p1,x.block<W.heap.size:=by obtain⟨m,hm⟩:=h1;exact DataW.trod_lt m _ _ _ hm
 have lt2:∀x∈p2,x.block<W.heap.size:=by obtain⟨m,hm⟩:=h2;exact DataW.trod_lt m _ _ _ hm
 obtain⟨y,rfl,hy⟩:=QU (hval 1 24 v1 rfl rfl) h1;obtain⟨z,rfl,hz⟩:=QU (hval 2 24 v2 rfl rfl) h2;obtain⟨ch,hch⟩:=U1 h0;have hm:=cell_of_shapedOpen_int (P:=Tryz.prog) (g:=1) (t:=3) (zero:= #[.int .i64 0]) hsh (of_decide_eq_true (by kernel_rfl)) (by kernel_rfl) rfl (by kernel_rfl) (by kernel_rfl) Tryz.underlying3;clear hA0;refine(hwalk W len0 cap0 a0 ch y z hch hy hz ⟨hm,J2 hL,Q1 hL⟩).mono fun e W' ⟨he,bel⟩=> ?_;subst he;exact⟨_,rfl,_,_,_,[],_,[],hW',trodAll_mk1 (shut_bool Tryz.underlying4 _),trodAll_mk3 (Below.trod Tryz.laidOut (by kernel_rfl) (of_decide_eq_true (by kernel_rfl)) h0 bel lt0) (Below.trod Tryz.laidOut (by kernel_rfl) (of_decide_eq_true (by kernel_rfl)) h1 bel lt1) (Below.trod Tryz.laidOut (by kernel_rfl) (of_decide_eq_true (by kernel_rfl)) h2 bel lt2),rfl,bel.frame _,fun h=>by cases h⟩
def Bm (cs:Array Value):Obj->Obj
 | .cells _ t frozen=> .cells cs t frozen
 |o=>o
def J5:Array Value:= #[.string ⟨#[115,115,101,115]⟩,.string ⟨#[115,115]⟩,.string ⟨#[105,101,115]⟩,.string ⟨#[121]⟩,.string ⟨#[115,115]⟩,.string ⟨#[115,115]⟩,.string ⟨#[105,110,103]⟩,.string ⟨#[]⟩,.string ⟨#[101,100]⟩,.string ⟨#[]⟩,.string ⟨#[101,115]⟩,.string ⟨#[101]⟩,.string ⟨#[115]⟩,.string ⟨#[]⟩]
def LF:DataW Unit->Array Value
 | .agg l=>(l.map fun d=>match d with
   | .lit (.int k n)=>Value.int k n
   |_=>undef).toArray
 |_=> #[]
theorem RO (os:Os):laidMetH Tryz.prog Rows.storeFindsRow.laid ((({World.holding Tryz.prog os ⟨#[],#[],[]⟩with heap:=((((((World.holding Tryz.prog os ⟨#[],#[],[]⟩).heap.modify 2 (Bm #[.iface 327 (.agg #[.pointer (some ⟨6,43,none⟩)])])).modify 0 (Bm J5)).modify 3 (Bm (LF Rows.laid_internal_strconv_uint64pow10))).modify 4 (Bm (LF Rows.laid_math_bits_deBruijn32tab))).modify 5 (Bm (LF Rows.laid_math_bits_deBruijn64tab)))}:World)).forCall (fun _ _=>0) ⟨#[],#[.slice none 0 0,.agg #[.int .i64 0,.int .i64 0,.string ⟨#[]⟩],.agg #[.int .i64 0,.int .i64 0,.string ⟨#[]⟩]],[]⟩).memory:=
 laidMetH_of_parts (laidMet_of_run' 8 (by kernel_rfl) (by kernel_rfl)) (by kernel_rfl)
theorem reads (os:Os) {H:Type} (enc:TypeId×Value->H):∃places,DataW.whole enc Tryz.prog ((({World.holding Tryz.prog os ⟨#[],#[],[]⟩with heap:=((((((World.holding Tryz.prog os ⟨#[],#[],[]⟩).heap.modify 2 (Bm #[.iface 327 (.agg #[.pointer (some ⟨6,43,none⟩)])])).modify 0 (Bm J5)).modify 3 (Bm (LF Rows.laid_internal_strconv_uint64pow10))).modify 4 (Bm (LF Rows.laid_math_bits_deBruijn32tab))).modify 5 (Bm (LF Rows.laid_math_bits_deBruijn64tab)))}:World)).forCall (fun _ _=>0) ⟨#[],#[.slice none 0 0,.agg #[.int .i64 0,.int .i64 0,.string ⟨#[]⟩],.agg #[.int .i64 0,.int .i64 0,.string ⟨#[]⟩]],[]⟩).memory Tryz.f3.params.toList Rows.storeFindsSpec.vars false #[Value.slice none 0 0,Value.agg #[.int .i64 0,.int .i64 0,.string ⟨#[]⟩],Value.agg #[.int .i64 0,.int .i64 0,.string ⟨#[]⟩]].toList 8=some ([.nil,.agg [.lit (.int .i64 0),.lit (.int .i64 0),.lit (.string [])],.agg [.lit (.int .i64 0),.lit (.int .i64 0),.lit (.string [])]],[],places):=
 ⟨[],by kernel_rfl⟩
theorem UM (hwalk:Nr) (os:Os) (started:os.Started) (H:Type) (enc:TypeId×Value->H) (F:Stop.Interp):
  ReturnsInHanded {} Tryz.checked os 3 .any ((OpenSpec.ofChange Rows.storeFindsSpec).preRow enc Tryz.prog Tryz.f3 Rows.storeFindsRow.domain false Rows.storeFindsRow.laid) (((OpenSpec.ofChange Rows.storeFindsSpec).at F).post enc Tryz.prog Tryz.f3 false true false false):=by
 obtain⟨places,hx⟩:=reads os enc
 refine returnsInHanded_of_row (C:=Tryz.checked) (s:=OpenSpec.ofChange Rows.storeFindsSpec) Tryz.own started (by kernel_rfl) Tryz.func3
  (witness_row_at (enc:=enc) (C:=Tryz.checked) false ({World.holding Tryz.prog os ⟨#[],#[],[]⟩with heap:=((((((World.holding Tryz.prog os ⟨#[],#[],[]⟩).heap.modify 2 (Bm #[.iface 327 (.agg #[.pointer (some ⟨6,43,none⟩)])])).modify 0 (Bm J5)).modify 3 (Bm (LF Rows.laid_internal_strconv_uint64pow10))).modify 4 (Bm (LF Rows.laid_math_bits_deBruijn32tab))).modify 5 (Bm (LF Rows.laid_math_bits_deBruijn64tab)))}:World) #[.slice none 0 0,.agg #[.int .i64 0,.int .i64 0,.string ⟨#[]⟩],.agg #[.int .i64 0,.int .i64 0,.string ⟨#[]⟩]] rfl (by kernel_rfl) (by kernel_rfl) (by kernel_rfl)
    (OpenSpec.preRow_of_cond 8 hx (by kernel_rfl) (fun k hk=>by cases hk) (by kernel_rfl) (RO os))) ?_
 intro W base args ds gs before hval hW _ _ _ hL hsh _;exact Su hwalk H enc W base args ds gs before hval hW hL hsh
theorem Oo (hwalk:Nr):Rows.StoreFindsSaid:=
 OpenClaim.holds_of_cond 3 Tryz.f3 rfl rfl rfl rfl rfl rfl rfl ⟨rfl,rfl,rfl,rfl,rfl⟩ rfl rfl rfl rfl rfl (by kernel_rfl) Tryz.func3 (by kernel_rfl)
  (of_decide_eq_true (by kernel_rfl)) (by unfold Func.isWrapper;first|(rw[if_pos (by decide+kernel)];kernel_rfl)|(rw[if_neg (by decide+kernel)];exact⟨rfl,rfl⟩))
  (fun os started H enc _ F=>by rw[OpenClaim.pre_eq_preRow];exact UM hwalk os started H enc F)
theorem V4 (f:FuncId) (fn:Func) (hf:Tryz.pinned.checked.prog.funcNamed "concordance/concordancekeep.StoreFinds" =some f) (hfn:Tryz.pinned.checked.prog.funcs[f]? =some fn):
  true=Tryz.pinned.checked.prog.looks []/\∀(j:Nat) t,fn.params[j]? =some t->Tryz.pinned.checked.prog.wantsStandIn t=false:=by
 obtain rfl:f=3:=Option.some.inj ((show Tryz.prog.funcNamed "concordance/concordancekeep.StoreFinds" =some 3 by kernel_rfl).symm.trans hf) |>.symm;obtain rfl:fn=Tryz.f3:=(Option.some.inj (Tryz.func3.symm.trans hfn)).symm;refine⟨by kernel_rfl,fun j t ht=> ?_⟩;rw[Tryz.params3]at ht;have hm:t=22\/t=24\/t=24:=by simpa using Array.mem_of_getElem? ht
 rcases hm with hm|hm|hm
 ·rw[hm];exact(show Tryz.prog.wantsStandIn 22=false by kernel_rfl)
 ·rw[hm];exact(show Tryz.prog.wantsStandIn 24=false by kernel_rfl)
 ·rw[hm];exact(show Tryz.prog.wantsStandIn 24=false by kernel_rfl)
theorem Ka (hwalk:Nr):Rows.StoreFindsCardSaid:=
 Claim7.holds_tied_plain_at .later [] _ _ _ _ (Oo hwalk) (fun _ h=>by cases h) (by kernel_rfl) (fun _ h=>by cases h) storeFinds_row_tie rfl ⟨rfl,rfl⟩ (by kernel_rfl) rfl V4 (by kernel_rfl)
end
section
open Go.RowKit
set_option maxHeartbeats 2000000
theorem On:Nr:=by
 intro w n0 c0 a0 ch y z hx hy hz hg
 by_cases h0:n0<=50
 ·exact Oq w n0 c0 a0 ch y z hx h0 hy hz hg (World.block_lt_of_cell? _ _ hg.h)
 ·have e0:(50:Int)<(n0:Int):=by omega
  have hb1:Below w.heap.size w ((w.alloc (.cells #[.int .i64 y.k,.int .i64 y.n,.string y.s] 24)).alloc (.cells #[.int .i64 z.k,.int .i64 z.n,.string z.s] 24)):=((Below.refl _ w).alloc (Nat.le_refl _) _).alloc (by simp) _;have HB:Hid _:=hb1;clear h0 hb1;go_enter Tryz.func3,Tryz.ntmps3;go_wp2;go_ret;exact⟨rfl,HB.out⟩
theorem storefinds_card:Rows.StoreFindsCardSaid:=Ka On
#print axioms storefinds_card
end
end Go.Proofs.YtihnldkgeelehaaGreatDoor
