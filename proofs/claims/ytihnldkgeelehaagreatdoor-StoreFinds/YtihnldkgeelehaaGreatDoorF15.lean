/- StoreFinds: part 15. -/
import Derived.Test.YtihnldkgeelehaaGreatDoorF14
set_option maxRecDepth 100000
set_option maxHeartbeats 4000000
namespace Go.Proofs.YtihnldkgeelehaaGreatDoor
section
open Go.RowKit Go.Maps
theorem Lz {B vb vc:Nat} {ps:List ByteArray} (w:World) (hBw:B<=w.heap.size) (hm:1<=ps.length) (hm2:ps.length<=2) (hv:AM vb vc (ps.map .string) w):
  Calls Tryz.prog 176 #[.slice none 0 0,.int .i64 0,.int .i64 0,.slice (some ⟨vb,0,none⟩) ps.length vc] w fun e w'=>∃v',e= .returned v'/\Ao B v' (ps.map Value.string) w'/\Aa (fun b=>B<=b) w w':=by
 have HV:Hid _:=hv;have hlp:(ps.map Value.string).length=ps.length:=List.length_map _;have HLP:Hid _:=hlp;have HC:Hid _:=Any2.slices_Insert_string_end_grow Tryz.lays2n22 none 0 0 vb 0 ps.length vc [] (ps.map Value.string) w (by omega) (Nat.le_refl _) (by omega) (by omega) rfl hlp (fun _=>rfl) (fun a e=>by cases e) (fun j u hj=>by rw[Nat.zero_add];exact hv.cell j u hj) (Ct ps);obtain⟨m,hmm⟩:∃m,ps.length=m:=⟨_,rfl⟩;rw[hmm]at hm hm2 HLP HC;rw[hmm];clear hv hlp hmm;go_enter Tryz.func176,Tryz.ntmps176;go_wp2_with fail;refine(show Calls _ _ _ _ _ from HC.out).mono ?_;rintro _ w' ⟨rfl,rfl⟩;have hG1:=grownCap_ge w (0+m) 0 (Tryz.lays2n22_ren.t 9);have hG2:=grownCap_le_maxLen w (0+m) 0 (Tryz.lays2n22_ren.t 9) (by unfold maxLen;omega);obtain⟨G,hG⟩:∃G,grownCap w (0+m) 0 (Tryz.lays2n22_ren.t 9)=G:=⟨_,rfl⟩;rw[hG]at hG1 hG2;rw[hG];have HB:Hid (Aa (fun b=>B<=b) w (w.drew.alloc (.cells (([]++ps.map Value.string).toArray++Builtin.zeroCells (Value.string ⟨#[]⟩).cells (G-(0+m))) (Tryz.lays2n22_ren.t 9)))):=Ab ((Below.refl _ w).drew.alloc (Nat.le_refl _) _) _
 have HVW:Hid (Ao B (.slice (some ⟨w.heap.size,0,none⟩) (0+m) G) (ps.map Value.string) (w.drew.alloc (.cells (([]++ps.map Value.string).toArray++Builtin.zeroCells (Value.string ⟨#[]⟩).cells (G-(0+m))) (Tryz.lays2n22_ren.t 9)))):=by
  show Ao _ _ _ _;rw[Nat.zero_add]at hG1 ⊢;rw[<-HLP.out]at hG1 ⊢;refine CV hBw (by rw[World.size_alloc];exact Nat.lt_succ_self _) hG1 hG2 (fun j hj=> ?_);have hn:=heap_alloc_new w.drew (.cells (([]++ps.map Value.string).toArray++Builtin.zeroCells (Value.string ⟨#[]⟩).cells (G-(ps.map Value.string).length)) (Tryz.lays2n22_ren.t 9));simp only[World.cell?];rw[show w.heap.size=w.drew.heap.size from rfl,hn];simp only[List.nil_append];rw[Array.getElem?_append_left (by simpa using hj)];simp at hj;simp[hj]
 generalize w.drew.alloc (.cells (([]++ps.map Value.string).toArray++Builtin.zeroCells (Value.string ⟨#[]⟩).cells (G-(0+m))) (Tryz.lays2n22_ren.t 9))=W1 at *;rw[Nat.zero_add]at HVW;go_wp2;go_ret;exact⟨_,rfl,HVW.out,HB.out⟩
theorem M2 {B vb vc i j:Nat} {v:Value} {ts ps:List ByteArray} (w:World) (hR:Cl B v ts w) (h0:ts=[]->v= .slice none 0 0) (hn:ts.length<=1000) (hBw:B<=w.heap.size) (hi:i<ts.length\/(ts=[]/\i=0)) (hj:j=min (i+1) ts.length)
  (hm:1<=ps.length) (hm2:ps.length<=2) (hv:AM vb vc (ps.map .string) w) (hne:v.ownBlock≠some vb):
  Calls Tryz.prog 176 #[v,.int .i64 (i:Nat),.int .i64 (j:Nat),.slice (some ⟨vb,0,none⟩) ps.length vc] w fun e w'=>∃v',e= .returned v'/\Ao B v' ((ts.take i++ps++ts.drop (i+1)).map Value.string) w'/\Aa (fun b=>B<=b) w w':=by
 by_cases hts:ts=[]
 ·subst hts
  have hv0:=h0 rfl;subst hv0
  have hi0:i=0:=by
   rcases hi with h|h
   ·simp at h
   ·exact h.2
  subst hi0;have hj0:j=0:=by simpa using hj
  subst hj0;have:=Lz (B:=B) w hBw hm hm2 hv;simpa using this
 ·have hil:i<ts.length:=by
   rcases hi with h|h
   ·exact h
   ·exact absurd h.1 hts
  have hj1:j=i+1:=by omega
  subst hj1;obtain⟨g,cap,rfl,hB,hr⟩:=hR.at (by omega);have hvg:g≠vb:=fun e=>hne (by rw[e];rfl);rcases Nat.eq_or_lt_of_le (show i+1<=ts.length by omega)with he|hlt
  ·have:=M1 w hr hB hn hBw he hm hm2 hv
   rw[List.drop_of_length_le (by omega),List.append_nil];exact this
  ·obtain⟨d,hd⟩:∃d,ts.length=i+1+d:=⟨ts.length-(i+1),by omega⟩
   by_cases hroom:cap<i+ps.length+d
   ·exact L1 w hr hn hBw hd (by omega) hm hm2 hv hroom
   ·rcases Nat.eq_or_lt_of_le hm with h1|h1
    ·exact Ly w hr hB hn hd (by omega) h1.symm hv (by omega)
    ·exact JQ w hr hB hn hd (by omega) (by omega) hv hvg (by omega)
end
end Go.Proofs.YtihnldkgeelehaaGreatDoor
