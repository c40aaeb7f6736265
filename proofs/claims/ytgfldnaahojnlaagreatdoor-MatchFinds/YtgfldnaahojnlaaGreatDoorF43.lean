/- MatchFinds: part 43. -/
import Derived.Test.YtgfldnaahojnlaaGreatDoorF23
import Derived.Test.YtgfldnaahojnlaaGreatDoorF42
import Derived.Test.YtgfldnaahojnlaaGreatDoorCards
import Derived.Test.YtgfldnaahojnlaaGreatDoorTie
import Derived.ProofKit
import Derived.OpenShut
import Derived.Deep.DeepHandedRow
import Derived.Deep.Strs
import Derived.Lib.LaidU8
import Derived.LaidHandle
import Derived.Stop.Joined
import Derived.Shelf.Vars
import Derived.SliceStrings
import Derived.ChangeSlices
set_option maxRecDepth 100000
set_option maxHeartbeats 4000000
namespace Go.Proofs.YtgfldnaahojnlaaGreatDoor
section
open Go.ChangeShapes Go.WideShapes Go.ChangeAt Go.RowKit
open Go.ChangeMaps (open_string shut_string)
theorem YK:Tryz.prog.globalNamed "errors.errorType" =some 2:=by kernel_rfl
theorem Yy:(Tryz.prog.cutTypes.find? (·.1 == "internal/reflectlite.rtype")).map (·.2)=some 260:=by kernel_rfl
theorem XN:((List.range 376).filter fun t=>Tryz.prog.rowNamed t [101,114,114,111,114])=[29]:=by kernel_rfl
theorem Yv:Tryz.prog.types.size=376:=by kernel_rfl
theorem WV:Tryz.prog.cellsOf 9=1:=by kernel_rfl
def NX:List (String×DataW Unit):=[("unicode/utf8.acceptRanges",Rows.laid_unicode_utf8_acceptRanges),("concordance/word.ends",Rows.laid_concordance_word_ends),("unicode/utf8.first",Rows.laid_unicode_utf8_first)]
theorem SG {W:World} (h:laidMetH Tryz.prog Rows.matchFindsRow.laid W):AQ W:=by
 have h':laidMet Tryz.prog NX W/\handlesMet Tryz.prog [("errors.errorType",Rows.laid_errors_errorType)] W:=h;exact MC h'.1 (List.mem_cons_of_mem _ List.mem_cons_self)
theorem Ks {W:World} (h:laidMetH Tryz.prog Rows.matchFindsRow.laid W):HG W:=by
 have h':laidMet Tryz.prog NX W/\handlesMet Tryz.prog [("errors.errorType",Rows.laid_errors_errorType)] W:=h;obtain⟨name,u,ty,e1,e2,e3,e4,e5⟩:=h'.2 _ (List.mem_singleton.2 rfl);have en:name=[101,114,114,111,114]:=(Option.some.inj e1).symm;subst en;obtain rfl:=Option.some.inj (Yy.symm.trans e2);have hm:ty∈(List.range 376).filter fun t=>Tryz.prog.rowNamed t [101,114,114,111,114]:=List.mem_filter.2 ⟨List.mem_range.2 (by rw[<-Yv];exact e3),e4⟩;rw[XN]at hm;obtain rfl:=List.mem_singleton.1 hm;have hh:typeHandle Tryz.prog 29= .pointer (some ⟨5,29,none⟩):=by kernel_rfl
 rw[hh]at e5;simpa [HG]using World.var?_cell YK e5 0
theorem Vt {W:World} {a:Addr} {n:Nat} {f:Nat->Value} (hc:∀i,i<n->W.cell? (a.add i)=some (f i)):∀i,i<n->∃b o,(some a:Option Addr)=some ⟨b,o,none⟩/\b<W.heap.size/\W.cell? ⟨b,o+i,none⟩=some (f i):=by
 intro i hi;obtain⟨b,off,spot⟩:=a;have hx0:=hc 0 (by omega);have hspot:spot=Option.none:=by simpa [Addr.add]using World.cell?_spot hx0
 subst hspot;have hbl:b<W.heap.size:=by simpa [AG]using World.block_lt_of_cell? W _ hx0
 have:=hc i hi;rw[AG]at this;exact⟨b,off,rfl,hbl,this⟩
def TxS (w:World) (a:Option Addr) (n:Nat) (tx:Nat->ByteArray):Prop:=∀i,i<n->∃b off,a=some ⟨b,off,none⟩/\b<w.heap.size/\w.cell? ⟨b,off+i,none⟩=some (.string (tx i))
def OE:Prop:=∀(w:World) (n0 c0:Nat) (a0:Option Addr) (tx:Nat->ByteArray) (A:ByteArray),TxS w a0 n0 tx->A.size<=maxLen->Gl w->
  Calls Tryz.prog 3 #[.slice a0 n0 c0,.string A] w fun e w'=>e= .returned (.bool true)/\Below w.heap.size w w'
theorem Vj (hwalk:OE) (H:Type) (enc:TypeId×Value->H) (W:World) (base:Nat) (args:Array Value) (ds gs:List (DataW H)) (before:List MemPlace)
  (hval:∀(j:Nat) t v,Tryz.f3.params[j]? =some t->args[j]? =some v->Value.okWide Tryz.prog W .any base t v)
  (hW:DataW.Whole enc Tryz.prog Tryz.f3.params.toList Rows.matchFindsSpec.vars false W args.toList ds gs before) (hL:laidMetH Tryz.prog Rows.matchFindsRow.laid W) (hsh:W.ShapedOpen Tryz.prog):
  Calls Tryz.prog 3 args W fun e W'=>∃v,e= .returned v/\Rows.matchFindsSpec.post enc Tryz.prog Tryz.f3 false true false false W args v W':=by
 have hW':=hW;obtain⟨p,q,hA0,hV,rfl,hfz,hnd⟩:=hW;have hA:DataW.TrodAll enc Tryz.prog W 0 (fun _=>true) true Tryz.f3.params.toList args.toList ds p:=hA0;rw[Tryz.params3]at hA hval;obtain⟨v0,v1,d0,d1,p0,p1,rfl,rfl,rfl,h0,h1⟩:=trodAll_two hA;obtain⟨rfl,rfl⟩:=trodVars_none hV;obtain⟨a0,len0,cap0,rfl⟩:=okWide_slice Tryz.underlying22 (hval 0 22 v0 rfl rfl);have lt0:∀x∈p0,x.block<W.heap.size:=by obtain⟨m,hm⟩:=h0;exact DataW.trod_lt m _ _ _ hm
 have texts:∃tx,TxS W a0 len0 tx:=by
  obtain⟨fuel,hf⟩:=h0;rcases open_strings Tryz.underlying22 Tryz.underlying9 WV hf with⟨hcs,_⟩|⟨a,len',cap',ss,hcs,_,hl,hm,hz,hx,hcell,_⟩
  ·simp[Value.cells]at hcs
   obtain⟨rfl,rfl,rfl⟩:=hcs;exact⟨fun _=>⟨#[]⟩,fun i hi=>absurd hi (by omega)⟩
  ·simp[Value.cells]at hcs
   obtain⟨rfl,rfl,rfl⟩:=hcs;simp only[if_true]at hz;refine⟨fun i=>ss.getD i ⟨#[]⟩,Vt (f:=fun i=> .string (ss.getD i ⟨#[]⟩)) (fun i hi=> ?_)⟩;have:=hcell i (by omega);rw[this];simp[List.getD_eq_getElem?_getD,show i<ss.length by omega]
 have lt1:∀x∈p1,x.block<W.heap.size:=by obtain⟨m,hm⟩:=h1;exact DataW.trod_lt m _ _ _ hm
 have h1c:=h1;obtain⟨s1,rfl,rfl,rfl,hs1⟩:=open_string Tryz.underlying9 (hval 1 9 v1 rfl rfl) h1;obtain⟨tx,htx⟩:=texts;have hm:=cell_of_shapedOpen_int (P:=Tryz.prog) (g:=1) (t:=3) (zero:= #[.int .i64 0]) hsh (of_decide_eq_true (by kernel_rfl)) (by kernel_rfl) rfl (by kernel_rfl) (by kernel_rfl) Tryz.underlying3;clear hA0;refine(hwalk W len0 cap0 a0 tx s1 htx hs1 ⟨hm,Ks hL,SG hL⟩).mono fun e W' ⟨he,bel⟩=> ?_;subst he;exact⟨_,rfl,_,_,_,[],_,[],hW',trodAll_mk1 (shut_bool Tryz.underlying4 _),trodAll_mk2 (Below.trod Tryz.laidOut (by kernel_rfl) (of_decide_eq_true (by kernel_rfl)) h0 bel lt0) (Below.trod Tryz.laidOut (by kernel_rfl) (of_decide_eq_true (by kernel_rfl)) h1c bel lt1),rfl,bel.frame _,fun h=>by cases h⟩
def Ck (cs:Array Value):Obj->Obj
 | .cells _ t frozen=> .cells cs t frozen
 |o=>o
def Kx:Array Value:= #[.string ⟨#[115,115,101,115]⟩,.string ⟨#[115,115]⟩,.string ⟨#[105,101,115]⟩,.string ⟨#[121]⟩,.string ⟨#[115,115]⟩,.string ⟨#[115,115]⟩,.string ⟨#[105,110,103]⟩,.string ⟨#[]⟩,.string ⟨#[101,100]⟩,.string ⟨#[]⟩,.string ⟨#[101,115]⟩,.string ⟨#[101]⟩,.string ⟨#[115]⟩,.string ⟨#[]⟩]
def firstCells:Array Value:=(Go.Pinned.utf8FirstZ.map fun(n:Nat)=>Value.int .u8 n).toArray
def GY:Array Value:=((([128,191,160,191,128,159,144,191,128,143]:List Nat)++List.replicate 22 0).map fun(n:Nat)=>Value.int .u8 n).toArray
theorem UI (os:Os):laidMetH Tryz.prog Rows.matchFindsRow.laid (({World.holding Tryz.prog os ⟨#[],#[],[]⟩with heap:=(((((World.holding Tryz.prog os ⟨#[],#[],[]⟩).heap.modify 2 (Ck #[.iface 260 (.agg #[.pointer (some ⟨5,29,none⟩)])])).modify 0 (Ck Kx)).modify 3 (Ck firstCells)).modify 4 (Ck GY))}:World).forCall (fun _ _=>0) ⟨#[],#[.slice none 0 0,.string ⟨#[]⟩],[]⟩).memory:=
 laidMetH_of_parts (laidMet_of_run' 8 (by kernel_rfl) (by kernel_rfl)) (by kernel_rfl)
theorem reads (os:Os) {H:Type} (enc:TypeId×Value->H):∃places,DataW.whole enc Tryz.prog (({World.holding Tryz.prog os ⟨#[],#[],[]⟩with heap:=(((((World.holding Tryz.prog os ⟨#[],#[],[]⟩).heap.modify 2 (Ck #[.iface 260 (.agg #[.pointer (some ⟨5,29,none⟩)])])).modify 0 (Ck Kx)).modify 3 (Ck firstCells)).modify 4 (Ck GY))}:World).forCall (fun _ _=>0) ⟨#[],#[.slice none 0 0,.string ⟨#[]⟩],[]⟩).memory Tryz.f3.params.toList Rows.matchFindsSpec.vars false #[Value.slice none 0 0,Value.string ⟨#[]⟩].toList 8=some ([.nil,.lit (.string [])],[],places):=
 ⟨[],by kernel_rfl⟩
theorem XR (hwalk:OE) (os:Os) (started:os.Started) (H:Type) (enc:TypeId×Value->H) (F:Stop.Interp):
  ReturnsInHanded {} Tryz.checked os 3 .any ((OpenSpec.ofChange Rows.matchFindsSpec).preRow enc Tryz.prog Tryz.f3 Rows.matchFindsRow.domain false Rows.matchFindsRow.laid) (((OpenSpec.ofChange Rows.matchFindsSpec).at F).post enc Tryz.prog Tryz.f3 false true false false):=by
 obtain⟨places,hx⟩:=reads os enc
 refine returnsInHanded_of_row (C:=Tryz.checked) (s:=OpenSpec.ofChange Rows.matchFindsSpec) Tryz.own started (by kernel_rfl) Tryz.func3
  (witness_row_at (enc:=enc) (C:=Tryz.checked) false ({World.holding Tryz.prog os ⟨#[],#[],[]⟩with heap:=(((((World.holding Tryz.prog os ⟨#[],#[],[]⟩).heap.modify 2 (Ck #[.iface 260 (.agg #[.pointer (some ⟨5,29,none⟩)])])).modify 0 (Ck Kx)).modify 3 (Ck firstCells)).modify 4 (Ck GY))}:World) #[.slice none 0 0,.string ⟨#[]⟩] rfl (by kernel_rfl) (by kernel_rfl) (by kernel_rfl)
    (OpenSpec.preRow_of_cond 8 hx (by kernel_rfl) (fun k hk=>by cases hk) (by kernel_rfl) (UI os))) ?_
 intro W base args ds gs before hval hW _ _ _ hL hsh _;exact Vj hwalk H enc W base args ds gs before hval hW hL hsh
theorem PF (hwalk:OE):Rows.MatchFindsSaid:=
 OpenClaim.holds_of_cond 3 Tryz.f3 rfl rfl rfl rfl rfl rfl rfl ⟨rfl,rfl,rfl,rfl,rfl⟩ rfl rfl rfl rfl rfl (by kernel_rfl) Tryz.func3 (by kernel_rfl)
  (of_decide_eq_true (by kernel_rfl)) (by unfold Func.isWrapper;first|(rw[if_pos (by decide+kernel)];kernel_rfl)|(rw[if_neg (by decide+kernel)];exact⟨rfl,rfl⟩))
  (fun os started H enc _ F=>by rw[OpenClaim.pre_eq_preRow];exact XR hwalk os started H enc F)
theorem plain (f:FuncId) (fn:Func) (hf:Tryz.pinned.checked.prog.funcNamed "concordance/concordancelaw.MatchFinds" =some f) (hfn:Tryz.pinned.checked.prog.funcs[f]? =some fn):
  true=Tryz.pinned.checked.prog.looks []/\∀(j:Nat) t,fn.params[j]? =some t->Tryz.pinned.checked.prog.wantsStandIn t=false:=by
 obtain rfl:f=3:=Option.some.inj ((show Tryz.prog.funcNamed "concordance/concordancelaw.MatchFinds" =some 3 by kernel_rfl).symm.trans hf) |>.symm;obtain rfl:fn=Tryz.f3:=(Option.some.inj (Tryz.func3.symm.trans hfn)).symm;refine⟨by kernel_rfl,fun j t ht=> ?_⟩;rw[Tryz.params3]at ht;have hm:t=22\/t=9:=by simpa using Array.mem_of_getElem? ht
 rcases hm with rfl|rfl
 ·exact(show Tryz.prog.wantsStandIn 22=false by kernel_rfl)
 ·exact(show Tryz.prog.wantsStandIn 9=false by kernel_rfl)
theorem KY (hwalk:OE):Rows.MatchFindsCardSaid:=
 Claim7.holds_tied_plain_at .later [] _ _ _ _ (PF hwalk) (fun _ h=>by cases h) (by kernel_rfl) (fun _ h=>by cases h) matchFinds_row_tie rfl ⟨rfl,rfl⟩ (by kernel_rfl) rfl plain (by kernel_rfl)
end
end Go.Proofs.YtgfldnaahojnlaaGreatDoor
