/- StoreFinds: part 3. -/
import Derived.Test.YtihnldkgeelehaaGreatDoorF02
import Derived.Shelf.Abstract
import Derived.Laws.IdiomStrings
import Derived.Handy
set_option maxRecDepth 100000
set_option maxHeartbeats 4000000
namespace Go.Proofs.YtihnldkgeelehaaGreatDoor
section
open Go.RowKit Go.Maps
structure Pst where
 used:Nat->Bool
 tx:Nat->ByteArray
 rp:Nat->Int
 rn:Nat->Int
def Pst.write (V:Pst) (k:Nat) (t:ByteArray):Pst:={V with tx:=fun i=>if i=k then t else V.tx i}
def Pst.alloc (V:Pst) (k:Nat):Pst:={V with used:=fun i=>if i=k then true else V.used i,tx:=fun i=>if i=k then CR else V.tx i}
def Pst.free (V:Pst) (k:Nat):Pst:={V with used:=fun i=>if i=k then false else V.used i}
def Pst.setRoot (V:Pst) (i:Nat) (k t:Int):Pst:={V with rp:=fun j=>if j=i then k else V.rp j,rn:=fun j=>if j=i then t else V.rn j}
structure CU (p:Pg) (pg:Nat->ByteArray) (V:Pst):Prop where
 used:p.used=V.used
 text:∀k,k<2000->V.used k=true->p.text pg k=V.tx k
 rp:∀i,i<8->p.rp i=V.rp i
 rn:∀i,i<8->p.rn i=V.rn i
section
variable {p:Pg} {pg:Nat->ByteArray} {V:Pst}
theorem CU.write (h:CU p pg V) (k:Nat) (t:ByteArray):CU (p.write k t) pg (V.write k t):=by
 refine⟨h.used,fun j hj hu=> ?_,h.rp,h.rn⟩;show(if j=k then some t else p.chg j).getD _=(if j=k then t else V.tx j)
 by_cases e:j=k
 ·rw[if_pos e,if_pos e];rfl
 ·rw[if_neg e,if_neg e];exact h.text j hj hu
theorem CU.alloc (h:CU p pg V) (k:Nat):CU (p.alloc k) pg (V.alloc k):=by
 refine⟨by show(fun i=>if i=k then true else p.used i)=_;rw[h.used];rfl,fun j hj hu=> ?_,h.rp,h.rn⟩;show(if j=k then some CR else p.chg j).getD _=(if j=k then CR else V.tx j)
 by_cases e:j=k
 ·rw[if_pos e,if_pos e];rfl
 ·rw[if_neg e,if_neg e]
  change (if j=k then true else V.used j)=true at hu
  rw[if_neg e]at hu;exact h.text j hj hu
theorem CU.free (h:CU p pg V) (k:Nat):CU (p.free k) pg (V.free k):=by
 refine⟨by show(fun i=>if i=k then false else p.used i)=_;rw[h.used];rfl,fun j hj hu=> ?_,h.rp,h.rn⟩
 change (if j=k then false else V.used j)=true at hu
 show(if j=k then none else p.chg j).getD _=V.tx j
 by_cases e:j=k
 ·rw[if_pos e]at hu;cases hu
 ·rw[if_neg e]at hu
  rw[if_neg e];exact h.text j hj hu
theorem CU.setRoot (h:CU p pg V) (i:Nat) (k t:Int):CU (p.setRoot i k t) pg (V.setRoot i k t):=by
 refine⟨h.used,h.text,fun j hj=> ?_,fun j hj=> ?_⟩
 ·show(if j=i then k else p.rp j)=(if j=i then k else V.rp j)
  rw[h.rp j hj]
 ·show(if j=i then t else p.rn j)=(if j=i then t else V.rn j)
  rw[h.rn j hj]
end
structure Tw (bp bd bm N:Nat) (s:St) (up:Nat->Bool) (cm:Int) (V:Pst) (w:World):Prop where
 ex:∃p:Pg,Am bp bd bm N p w/\p.Ok/\p.down=false/\p.upper=up/\p.commits=cm/\CU p s.pg V
 prg:Prg bd s w
section
variable {bp bd bm N:Nat} {s:St} {up:Nat->Bool} {cm:Int} {V:Pst} {w wx:World}
theorem Tw.below (h:Tw bp bd bm N s up cm V w) (hb:Below w.heap.size w wx):Tw bp bd bm N s up cm V wx:=by
 obtain⟨p,h1,h2⟩:=h.ex;exact⟨⟨p,h1.below hb,h2⟩,Prg.below h.prg hb⟩
theorem Tw.drew (h:Tw bp bd bm N s up cm V w):Tw bp bd bm N s up cm V w.drew:=by
 obtain⟨p,h1,h2⟩:=h.ex;exact⟨⟨p,h1.drew,h2⟩,Prg.drew h.prg⟩
theorem Tw.mono (h:Tw bp bd bm N s up cm V w) {N':Nat} (hN:N<=N'):Tw bp bd bm N' s up cm V w:=by
 obtain⟨p,h1,h2⟩:=h.ex;exact⟨⟨p,h1.mono hN,h2⟩,h.prg⟩
theorem Tw.lt (h:Tw bp bd bm N s up cm V w):bp<w.heap.size/\bm<w.heap.size/\bd<w.heap.size:=by
 obtain⟨p,h1,h2⟩:=h.ex;exact⟨h1.lt,h1.mlt,Bo.lt h.prg⟩
theorem Tw.only {S:Nat->Prop} (h:Tw bp bd bm N s up cm V w) (ho:Aa S w wx) (h1:¬S bp) (h2:¬S bm) (h3:¬S bd):Tw bp bd bm N s up cm V wx:=by
 obtain⟨p,k1,k2⟩:=h.ex;exact⟨⟨p,k1.only ho h1 h2,k2⟩,Prg.only h.prg ho h3⟩
theorem SQ (h:Tw bp bd bm N s up cm V w):Calls Tryz.prog 199 #[.pointer (some ⟨bp,0,none⟩)] w fun e w'=>e= .returned (.bool false)/\w'=w:=by
 obtain⟨p,h1,h2,h3,_⟩:=h.ex;refine(Sm h1.cells).mono ?_;rintro _ w' ⟨rfl,hw⟩;exact⟨by rw[h3],hw⟩
theorem Li (h:Tw bp bd bm N s up cm V w) (i:Nat) (hi:i<8):Calls Tryz.prog 107 #[.pointer (some ⟨bp,0,none⟩),.int .i64 i] w fun e w'=>e= .returned (.tuple #[.int .i64 (V.rp i),.int .i64 (V.rn i),.nilIface])/\Below w.heap.size w w':=by
 obtain⟨p,h1,h2,h3,_,_,hm⟩:=h.ex;refine(Rq h1.cells i hi).mono ?_;rintro _ w' ⟨rfl,hw⟩;exact⟨by rw[hm.rp i hi,hm.rn i hi],hw⟩
theorem Iq (h:Tw bp bd bm N s up cm V w) (k:Nat) (hk:k<2000) (hu:V.used k=true):Calls Tryz.prog 167 #[.pointer (some ⟨bp,0,none⟩),.int .i64 k] w fun e w'=>e= .returned (.tuple #[.string (V.tx k),.nilIface])/\Below w.heap.size w w':=by
 obtain⟨p,h1,h2,h3,_,_,hm⟩:=h.ex;refine(PC h1 h.prg h3 k hk (by rw[hm.used];exact hu)).mono ?_;rintro _ w' ⟨rfl,hw⟩;exact⟨by rw[hm.text k hk hu],hw⟩
theorem QV (h:Tw bp bd bm N s up cm V w) (hN:N<1000000) (k:Nat) (hk:k<2000) (hu:V.used k=true) (t:ByteArray) (ht:t.size=1024):
  Calls Tryz.prog 238 #[.pointer (some ⟨bp,0,none⟩),.int .i64 k,.string t] w fun e w'=>e= .returned .nilIface/\Tw bp bd bm (N+1) s up cm (V.write k t) w'/\Aa (fun b=>b=bp\/b=bm) w w':=by
 obtain⟨p,h1,h2,h3,h4,h5,hm⟩:=h.ex;have hu':p.used k=true:=by rw[hm.used];exact hu
 refine(Nv h1 hN h3 k hk hu' t ht).mono ?_;rintro _ w' ⟨rfl,hP,hO⟩;exact⟨rfl,⟨⟨_,hP,h2.write hk hu' t ht,h3,h4,h5,hm.write k t⟩,Prg.only h.prg hO (fun e=>h1.md h.prg e.symm)⟩,hO.mono (fun _ e=> .inr e)⟩
theorem SP (h:Tw bp bd bm N s up cm V w) (k:Nat) (hk:k<2000) (hu:V.used k=true):
  Calls Tryz.prog 236 #[.pointer (some ⟨bp,0,none⟩),.int .i64 k] w fun e w'=>e= .returned .nilIface/\Tw bp bd bm N s up cm (V.free k) w'/\Aa (fun b=>b=bp\/b=bm) w w':=by
 obtain⟨p,h1,h2,h3,h4,h5,hm⟩:=h.ex;refine(Qr h1 h3 k hk (by rw[hm.used];exact hu)).mono ?_;rintro _ w' ⟨rfl,hP,hO⟩;exact⟨rfl,⟨⟨_,hP,h2.free k,h3,h4,h5,hm.free k⟩,Prg.only h.prg hO (fun e=>by rcases e with e|e;exact h1.nd h.prg e.symm;exact h1.md h.prg e.symm)⟩,hO⟩
theorem QW (h:Tw bp bd bm N s up cm V w) (hN:N<1000000) (k:Nat) (h0:0<k) (hk:k<2000) (hu:V.used k=false) (hl:∀j,0<j->j<k->V.used j=true):
  Calls Tryz.prog 235 #[.pointer (some ⟨bp,0,none⟩)] w fun e w'=>e= .returned (.tuple #[.int .i64 k,.nilIface])/\Tw bp bd bm (N+1) s up cm (V.alloc k) w'/\Aa (fun b=>b=bp\/b=bm) w w':=by
 obtain⟨p,h1,h2,h3,h4,h5,hm⟩:=h.ex;refine(O3 h1 hN h3 k h0 hk (by rw[hm.used];exact hu) (fun j a b=>by rw[hm.used];exact hl j a b)).mono ?_;rintro _ w' ⟨rfl,hP,hO⟩;exact⟨rfl,⟨⟨_,hP,h2.alloc h0 hk,h3,h4,h5,hm.alloc k⟩,Prg.only h.prg hO (fun e=>by rcases e with e|e;exact h1.nd h.prg e.symm;exact h1.md h.prg e.symm)⟩,hO⟩
theorem IH (h:Tw bp bd bm N s up cm V w) (i:Nat) (hi:i<8) (k t:Nat) (hk:k<2000) (ht:t<65536):
  Calls Tryz.prog 214 #[.pointer (some ⟨bp,0,none⟩),.int .i64 i,.int .i64 k,.int .i64 t] w fun e w'=>e= .returned .nilIface/\Tw bp bd bm N s up cm (V.setRoot i k t) w'/\Aa (fun b=>b=bp\/b=bm) w w':=by
 obtain⟨p,h1,h2,h3,h4,h5,hm⟩:=h.ex;have b1:inB (k:Int) 2000=true:=by unfold inB;simp;omega
 have b2:inB (t:Int) 65536=true:=by unfold inB;simp;omega
 refine(Mr h1.cells h3 i hi k t b1 b2).mono ?_;rintro _ w' ⟨rfl,hC,hO⟩;exact⟨rfl,⟨⟨_,⟨hC,h1.own.only hO h1.ne⟩,h2.setRoot i b1 b2,h3,h4,h5,hm.setRoot i k t⟩,Prg.only h.prg hO (fun e=>h1.nd h.prg e.symm)⟩,hO.mono (fun _ e=> .inl e)⟩
end
end
section
open Go.RowKit
structure Pr where
 k:ByteArray
 i:ByteArray
def Pr.Ok (x:Pr):Prop:=1<=x.k.size/\x.k.size<=60/\x.i.size<=100
def Pr.sz (x:Pr):Nat:=2+x.k.size+x.i.size
def Pr.enc (x:Pr):List UInt8:=UInt8.ofNat x.k.size::UInt8.ofNat x.i.size::(x.k.data.toList++x.i.data.toList)
def C5:List Pr->List UInt8
 | []=>[]
 |x::r=>x.enc++C5 r
def szL:List Pr->Nat
 | []=>0
 |x::r=>x.sz+szL r
theorem Pr.enc_len (x:Pr):x.enc.length=x.sz:=by
 unfold Pr.enc Pr.sz;simp only[List.length_cons,List.length_append,Array.length_toList];show x.k.size+x.i.size+1+1=_;omega
theorem Ey:∀l,(C5 l).length=szL l
 | []=>rfl
 |x::r=>by rw[C5,szL,List.length_append,Pr.enc_len,Ey r]
theorem Dp:∀l m,C5 (l++m)=C5 l++C5 m
 | [],_=>rfl
 |x::r,m=>by rw[List.cons_append,C5,C5,Dp r m,List.append_assoc]
theorem Af:∀l m,szL (l++m)=szL l+szL m
 | [],m=>by rw[List.nil_append,szL,Nat.zero_add]
 |x::r,m=>by rw[List.cons_append,szL,szL,Af r m,Nat.add_assoc]
theorem Eb (l:List Pr) (j:Nat):szL (l.take j)<=szL l:=by
 conv=>rhs;rw[<-List.take_append_drop j l,Af]
 omega
theorem AO {l:List Pr} {j:Nat} (hj:j<l.length):szL (l.take (j+1))=szL (l.take j)+l[j].sz:=by
 rw[List.take_succ_eq_append_getElem hj,Af];rfl
structure CJ (t:ByteArray) (ps:List Pr) (z:Nat):Prop where
 data:t.data.toList=C5 ps++List.replicate z 0
 ok:∀x∈ps,x.Ok
 small:t.size<=4096
section
variable {t:ByteArray} {ps:List Pr} {z:Nat}
theorem CJ.size (h:CJ t ps z):t.size=szL ps+z:=by
 have:=congrArg List.length h.data;rw[List.length_append,Ey,List.length_replicate,Array.length_toList]at this;exact this
theorem CJ.at (h:CJ t ps z) {j:Nat} (hj:j<ps.length):t.data.toList.drop (szL (ps.take j))=ps[j].enc++(C5 (ps.drop (j+1))++List.replicate z 0):=by
 rw[h.data]
 have e:C5 ps=C5 (ps.take j)++(ps[j].enc++C5 (ps.drop (j+1))):=by
  conv=>lhs;rw[<-List.take_append_drop j ps,Dp,List.drop_eq_getElem_cons hj]
  rfl
 rw[e,List.append_assoc,<-Ey,List.drop_left,List.append_assoc]
theorem JZ {t:ByteArray} {n:Nat} (hn:n<t.size):t[n]=t.data.toList[n]'(by rw[Array.length_toList];exact hn):=by
 rw[Array.getElem_toList];rfl
theorem Cf {t:ByteArray} {a b:Nat} {l:List UInt8} {x:UInt8} (h:t.data.toList.drop a=l) (hx:l[b]? =some x) (hn:a+b<t.size):t[a+b]=x:=by
 rw[JZ hn];have:=congrArg (·[b]?) h;simp only[List.getElem?_drop]at this;rw[hx]at this;rw[List.getElem?_eq_getElem (by rw[Array.length_toList];exact hn)]at this;exact Option.some.inj this
theorem CJ.room (h:CJ t ps z) {j:Nat} (hj:j<ps.length):szL (ps.take j)+ps[j].sz<=t.size:=by
 rw[h.size,<-AO hj];have:=Eb ps (j+1);omega
theorem Gn {n:Nat} (h:n<=200):(UInt8.ofNat n).toNat=n:=by
 rw[UInt8.toNat_ofNat'];exact Nat.mod_eq_of_lt (by omega)
theorem CJ.key_len (h:CJ t ps z) {j:Nat} (hj:j<ps.length) (hn:szL (ps.take j)<t.size):(t[szL (ps.take j)]).toNat=ps[j].k.size:=by
 have e:=Cf (t:=t) (a:=szL (ps.take j)) (b:=0) (x:=UInt8.ofNat ps[j].k.size) (h.at hj) rfl hn;have e2:t[szL (ps.take j)]=UInt8.ofNat ps[j].k.size:=e;rw[e2];exact Gn (by have:=(h.ok _ (List.getElem_mem hj)).2.1;omega)
theorem CJ.item_len (h:CJ t ps z) {j:Nat} (hj:j<ps.length) (hn:szL (ps.take j)+1<t.size):(t[szL (ps.take j)+1]).toNat=ps[j].i.size:=by
 rw[Cf (t:=t) (a:=szL (ps.take j)) (b:=1) (x:=UInt8.ofNat ps[j].i.size) (h.at hj) rfl hn];exact Gn (by have:=(h.ok _ (List.getElem_mem hj)).2.2;omega)
theorem EP {t:ByteArray} {a b c:Nat} {l m r:List UInt8} (h:t.data.toList.drop a=l++(m++r)) (hb:b=a+l.length) (hc:c=b+m.length):t.extract b c=⟨m.toArray⟩:=by
 apply ByteArray.ext;apply Array.toList_inj.1;rw[ByteArray.data_extract,Array.toList_extract,List.extract_eq_take_drop];show(t.data.toList.drop b).take (c-b)=m
 have:t.data.toList.drop b=m++r:=by
  rw[hb,<-List.drop_drop,h,List.drop_left]
 rw[this,show c-b=m.length by omega,List.take_left]
theorem KL (b:ByteArray):(⟨b.data.toList.toArray⟩:ByteArray)=b:=by cases b;simp
theorem CJ.key (h:CJ t ps z) {j:Nat} (hj:j<ps.length):t.extract (szL (ps.take j)+2) (szL (ps.take j)+2+ps[j].k.size)=ps[j].k:=by
 have e:=h.at hj;rw[show ps[j].enc=[UInt8.ofNat ps[j].k.size,UInt8.ofNat ps[j].i.size]++(ps[j].k.data.toList++ps[j].i.data.toList)from rfl,List.append_assoc,List.append_assoc]at e;rw[EP (b:=szL (ps.take j)+2) e rfl (by rw[Array.length_toList];rfl),KL]
theorem CJ.item (h:CJ t ps z) {j:Nat} (hj:j<ps.length):t.extract (szL (ps.take j)+2+ps[j].k.size) (szL (ps.take j)+2+ps[j].k.size+ps[j].i.size)=ps[j].i:=by
 have e:=h.at hj;rw[show ps[j].enc=([UInt8.ofNat ps[j].k.size,UInt8.ofNat ps[j].i.size]++ps[j].k.data.toList)++ps[j].i.data.toList from rfl,List.append_assoc]at e;rw[EP e (by rw[List.length_append,Array.length_toList];show _=_+(2+ps[j].k.size);omega) (by rw[Array.length_toList];rfl),KL]
theorem CJ.tail (h:CJ t ps z) (hn:szL ps<t.size):t[szL ps]=0:=by
 have e:t.data.toList.drop (szL ps)=List.replicate z 0:=by rw[h.data,<-Ey,List.drop_left]
 have hz:=h.size;exact Cf (b:=0) (x:=0) e (by rw[List.getElem?_replicate,if_pos (by omega)]) hn
end
theorem B9 (t:ByteArray) (n:Nat) (hn:n<t.size) (b:Nat) (hb:(t[n]).toNat=b) (w:World):(Instr.index 9 (.string t) (.int .i64 n)).run Tryz.prog w= .ok (.int .u8 b) w:=by
 have h1:(n:Int)<(t.size:Int):=by omega
 subst hb;simp[Instr.index,run_underlying Tryz.underlying9,asIntOf,go_sem,hn]
theorem Fw (t:ByteArray) (a b:Nat) (h1:a<=b) (h2:b<=t.size) (x y:Int) (hx:x=a) (hy:y=b) (p:ByteArray) (hp:t.extract a b=p) (w:World):(Instr.slice 9 (.string t) (some (.int .i64 x)) (some (.int .i64 y)) none).run Tryz.prog w= .ok (.string p) w:=by
 subst hx hy;rw[run_slice_string w 9 t .i64 .i64 a b Tryz.underlying9 (by omega) (by omega) (by omega)];simp[hp]
theorem Fm {fid:Nat} {caps:Array Value} {t:ByteArray} {ps:List Pr} {z:Nat} (Inv:Nat->World->Prop) (Out:World->Prop) (eg:∀args w,(callFunc fid args).run Tryz.prog w= .ok (.enter fid args) w) (hL:CJ t ps z) (hdrew:∀j w,Inv j w->Inv j w.drew)
  (hcb:∀j (hj:j<ps.length) (w:World),Inv j w->Calls Tryz.prog fid (#[.agg #[.string ps[j].k,.string ps[j].i],.int .i64 (szL (ps.take (j+1)):Nat)]++caps) w fun e w'=>∃b,e= .returned (.bool b)/\(if b then Inv (j+1) w' else Out w'))
  (w:World) (h0:Inv 0 w):
  Calls Tryz.prog 121 #[.string t,.func (.func fid) #[] caps] w fun e w'=>∃b,e= .returned (.bool b)/\(if b then Inv ps.length w' else Out w'):=by
 have HL:Hid _:=hL;have HC:Hid _:=hcb;have HI:Hid (Inv 0 w):=h0;have hsm:=hL.small;have HSZ:Hid _:=hL.size;clear hcb h0 hL;go_enter Tryz.func121,Tryz.ntmps121;go_wp2_with fail;go_loopw [5] (fun i wr=>∃k:Nat,k<=ps.length/\i= .int .i64 (szL (ps.take k):Nat)/\Hid (Inv k wr)) (fun i _=>t.size+1-(intOf i).toNat)
 case atStart=>exact⟨0,Nat.zero_le _,rfl,HI⟩
 case round=>
  clear HI;obtain⟨k,hk,rfl,HI⟩:=hrel
  by_cases hlt:k<ps.length
  ·have r:=HL.out.room hlt
   have ok:=HL.out.ok _ (List.getElem_mem hlt);have kl:=HL.out.key_len hlt (by unfold Pr.sz at r;omega);have il:=HL.out.item_len hlt (by unfold Pr.sz at r;omega);have ke:=HL.out.key hlt;have ie:=HL.out.item hlt;have cb:=HC.out k hlt;rw[AO hlt]at cb;have HS:Hid (szL (ps.take (k+1))=szL (ps.take k)+ps[k].sz):=AO hlt;unfold Pr.Ok at ok;obtain⟨ok1,ok2,ok3⟩:=ok;have r2:szL (ps.take k)+(2+ps[k].k.size+ps[k].i.size)<=t.size:=r;have b0:=B9 t (szL (ps.take k)) (by omega) ps[k].k.size kl;have b1:∀w,(Instr.index 9 (.string t) (.int .i64 ((szL (ps.take k):Int)+1))).run Tryz.prog w= .ok (.int .u8 ps[k].i.size) w:=fun w=>B9 t (szL (ps.take k)+1) (by omega) ps[k].i.size il w;have HS:Hid (szL (ps.take (k+1))=szL (ps.take k)+(2+ps[k].k.size+ps[k].i.size)):=HS.out;have CB:Hid (∀(w:World),Inv k w->Calls Tryz.prog fid (#[.agg #[.string ps[k].k,.string ps[k].i],.int .i64 (szL (ps.take k)+(2+ps[k].k.size+ps[k].i.size):Nat)]++caps) w fun e w'=>∃b,e= .returned (.bool b)/\(if b then Inv (k+1) w' else Out w')):=cb;clear kl il r cb;generalize ps[k].k=xk at *;generalize ps[k].i=xi at *;generalize szL (ps.take k)=at0 at *;have s0:=Fw t (at0+2) (at0+2+xk.size) (by omega) (by omega) ((at0:Int)+2) ((at0:Int)+2+(xk.size:Int)) (by omega) (by omega) xk ke;have s1:=Fw t (at0+2+xk.size) (at0+2+xk.size+xi.size) (by omega) (by omega) ((at0:Int)+2+(xk.size:Int)) ((at0:Int)+2+(xk.size:Int)+(xi.size:Int)) (by omega) (by omega) xi ie;have hcst:Hid (((at0+(2+xk.size+xi.size):Nat):Int)=(at0:Int)+2+(xk.size:Int)+(xi.size:Int)):=by show _=_;omega
   rw[hcst.out]at CB;clear ie ke;go_wp2_with fail;have HI:Hid (Inv k wr.drew):=hdrew _ _ HI.out;have hw2:IntKind.i64.wrap ((at0:Int)+2)=(at0:Int)+2:=by simp[IntKind.wrap,IntKind.signed,IntKind.bits];omega
   go_region_held3 (fun _=>True) (exact trivial) (first|(refine(CB.out _ HI.out).mono ?_;rintro _ w2 ⟨b,rfl,h2⟩;have H2:Hid (if b then Inv (k+1) w2 else Out w2):=h2;clear h2))
   cases b
   ·go_wp2
    go_ret;exact⟨false,rfl,H2.out⟩
   ·go_wp2_with fail
    go_roundw
    case rel=>exact⟨k+1,by omega,by rw[HS.out,<-hcst.out],H2.out⟩
    case measure=>simp[intOf];omega
  ·obtain rfl:k=ps.length:=by omega
   have e1:szL (ps.take ps.length)=szL ps:=by rw[List.take_length]
   rw[e1];have hsz:=HSZ.out
   by_cases h2:szL ps+2<=t.size
   ·have b0:=B9 t (szL ps) (by omega) 0 (by rw[HL.out.tail (by omega)];rfl)
    clear hsz;have h3:(szL ps:Int)+2<=(t.size:Int):=by omega
    have h4:(szL ps:Int)<5000:=by omega
    go_wp2;go_ret
    first|exact⟨true,rfl,HI.out⟩|exact .inr ⟨rfl,HI.out⟩
   ·have h3:¬(szL ps:Int)+2<=(t.size:Int):=by omega
    have h4:(szL ps:Int)<5000:=by omega
    clear hsz;go_wp2;go_ret
    first|exact⟨true,rfl,HI.out⟩|exact .inr ⟨rfl,HI.out⟩
structure Ai (B:Nat) (v:Value) (wr:World):Prop where
 cell:wr.cell? ⟨B,0,none⟩=some v
 free:wr.frozen? ⟨B,0,none⟩=false
section
variable {w0 wr wx:World} {B:Nat} {v u:Value}
theorem Ai.lt (h:Ai B v wr):B<wr.heap.size:=World.block_lt_of_cell? wr _ h.cell
theorem Ai.block (h:Ai B v wr) (hb:wx.heap[B]? =wr.heap[B]?):Ai B v wx:=by
 refine⟨?_,?_⟩
 ·have:=h.cell;simp only[World.cell?]at this ⊢;rw[hb];exact this
 ·have:=h.free;simp only[World.frozen?]at this ⊢;rw[hb];exact this
theorem Ai.below (h:Ai B v wr) (hb:Below wr.heap.size wr wx):Ai B v wx:=h.block (hb.block _ h.lt)
theorem Ai.drew (h:Ai B v wr):Ai B v wr.drew:=h.block rfl
theorem Ai.set (h:Ai B v wr) (u:Value):Ai B u (wr.setCell ⟨B,0,none⟩ u):=by
 exact⟨World.cell?_setCell_same _ _ _ h.cell,by rw[World.frozen?_setCell];exact h.free⟩
theorem Ai.new (w:World) (v:Value) (t:TypeId):Ai w.heap.size v (w.alloc (.cells #[v] t)):=by
 have hn:(w.alloc (.cells #[v] t)).heap[w.heap.size]? =some (.cells #[v] t):=heap_alloc_new w _;exact⟨by simp only[World.cell?,hn];rfl,by simp only[World.frozen?,hn];simp⟩
end
theorem RL {w:World} {B:Nat} {v:Value} (h:w.cell? ⟨B,0,none⟩=some v):(loadVar 3 ⟨B,0,none⟩).run Tryz.prog w= .ok v w:=by
 simp[loadVar,Tryz.isAgg3,Tryz.sizeOf3,h,go_sem]
theorem V7 {w:World} {B:Nat} {v:Value} (h:w.cell? ⟨B,0,none⟩=some v):(loadVar 9 ⟨B,0,none⟩).run Tryz.prog w= .ok v w:=by
 simp[loadVar,Tryz.isAgg9,Tryz.sizeOf9,h,go_sem]
theorem DH {P:Program} {fn:Func} {p0 p1:Tmp} {t0 t1:TypeId} {v0 v1:Value} (h:fn.results= #[.cell p0 t0,.cell p1 t1]) (tmps:Array Value) (w:World) (a0 a1:Addr)
  (hp0:tmps.getD p0 undef= .pointer (some a0)) (hp1:tmps.getD p1 undef= .pointer (some a1))
  (hl0:(loadVar t0 a0).run P w= .ok v0 w) (hl1:(loadVar t1 a1).run P w= .ok v1 w):
  (results fn tmps).run P w= .ok (.tuple #[v0,v1]) w:=by
 have e0:tmps[p0]?.getD undef= .pointer (some a0):=by simpa [Array.getD_eq_getD_getElem?]using hp0
 have e1:tmps[p1]?.getD undef= .pointer (some a1):=by simpa [Array.getD_eq_getD_getElem?]using hp1
 simp[results,h,e0,e1,asAddr,hl0,hl1]
theorem Qz (x y:ByteArray) (n:Int) (B:Nat) (v:Value) (w:World) (h:Ai B v w):
  Calls Tryz.prog 233 #[.agg #[.string x,.string y],.int .i64 n,.pointer (some ⟨B,0,none⟩)] w fun e w'=>e= .returned (.bool true)/\Ai B (.int .i64 n) w'/\w.grownBy w' (some B):=by
 have h1:=h.below ((Below.refl _ w).alloc (o:= .cells #[.string x,.string y] 126) (Nat.le_refl _));have q:=h1.cell;have f:=h1.free;have HR:Hid _:=h1.set (.int .i64 n);have HG:Hid (w.grownBy ((w.alloc (.cells #[.string x,.string y] 126)).setCell ⟨B,0,none⟩ (.int .i64 n)) (some B)):=(DO ((Below.refl _ w).alloc (Nat.le_refl _) _) _).trans (Eg _ B 0 _);clear h h1;go_enter Tryz.func233,Tryz.ntmps233;go_wp2;go_ret;exact⟨rfl,HR.out,HG.out⟩
theorem Ot {t:ByteArray} {ps:List Pr} {z:Nat} (hL:CJ t ps z) (w:World):
  Calls Tryz.prog 203 #[.string t] w fun e w'=>e= .returned (.int .i64 (szL ps:Nat))/\Below w.heap.size w w':=by
 have HL:Hid _:=hL;have hmf:∀(fn:Fn) (first cap:Array Value) (w:World),(Instr.makeFunc fn first cap).run Tryz.prog w= .ok (.func fn first cap) w:=fun _ _ _ _=>rfl;have HO:Hid (Ai w.heap.size (.int .i64 0) (w.alloc (.cells #[.int .i64 0] 3))):=Ai.new w _ _;have HB:Hid (Below w.heap.size w (w.alloc (.cells #[.int .i64 0] 3))):=(Below.refl _ w).alloc (Nat.le_refl _) _;clear hL;go_enter Tryz.func203,Tryz.ntmps203;go_wp2_with fail;refine(Fm (fun j wx=>Ai w.heap.size (.int .i64 (szL (ps.take j):Nat)) wx/\Below w.heap.size w wx) (fun _=>False) (enters_of Tryz.func233 (by kernel_rfl) rfl) HL.out (fun j wx hh=>⟨hh.1.drew,hh.2.drew⟩) (fun j hj wx hh=> ?_) _ ⟨HO.out,HB.out⟩).mono ?_
 ·refine(Qz _ _ _ _ _ _ hh.1).mono ?_
  rintro _ wy ⟨rfl,h1,h2⟩;exact⟨true,rfl,h1,hh.2.grown h2 hh.2.size (fun k e=>by cases e;exact Nat.le_refl _)⟩
 rintro _ w1 ⟨b,rfl,h1⟩
 cases b
 ·exact h1.elim
 ·obtain⟨h2,h3⟩:=h1
  rw[List.take_length]at h2;have q:=h2.cell;have f:=h2.free;have HR:Hid _:=h2.set (.int .i64 (szL ps:Nat));have HB1:Hid (Below w.heap.size w (w1.setCell ⟨w.heap.size,0,none⟩ (.int .i64 (szL ps:Nat)))):=h3.setCell (Nat.le_refl _) _;clear h2 h3;go_wp2
  (try simp only[Exit.inBlock,Exit.then])
  exact bodyPost_ret (v:= .int .i64 (szL ps:Nat)) (Ax Tryz.results203 _ _ _ rfl (RL HR.out.cell)) rfl ⟨rfl,HB1.out⟩
def bl (x y:ByteArray):Bool:=Op.bytesLess x.toList y.toList
theorem Ai.other {B C:Nat} {v u:Value} {w:World} (h:Ai B v w) (hne:B≠C):Ai B v (w.setCell ⟨C,0,none⟩ u):=
 ⟨by rw[World.cell?_setCell_other _ _ _ _ (fun e=>hne (by cases e;rfl))];exact h.cell,by rw[World.frozen?_setCell];exact h.free⟩
structure Fv (w0:World) (Bk B4 B5:Nat) (key:ByteArray) (a b:Int) (w:World):Prop where
 k:Ai Bk (.string key) w
 f:Ai B4 (.int .i64 a) w
 t:Ai B5 (.int .i64 b) w
 n1:B4≠B5
 n2:Bk≠B4
 n3:Bk≠B5
 l4:w0.heap.size<=B4
 l5:w0.heap.size<=B5
 below:Below w0.heap.size w0 w
section
variable {w0 w wx:World} {Bk B4 B5:Nat} {key:ByteArray} {a b:Int}
theorem Fv.step (h:Fv w0 Bk B4 B5 key a b w) (hb:Below w.heap.size w wx):Fv w0 Bk B4 B5 key a b wx:=
 {h with k:=h.k.below hb,f:=h.f.below hb,t:=h.t.below hb,below:=h.below.trans (hb.mono h.below.size)}
theorem Fv.drew (h:Fv w0 Bk B4 B5 key a b w):Fv w0 Bk B4 B5 key a b w.drew:=
 {h with k:=h.k.drew,f:=h.f.drew,t:=h.t.drew,below:=h.below.drew}
theorem Fv.setT (h:Fv w0 Bk B4 B5 key a b w) (n:Int):Fv w0 Bk B4 B5 key a n (w.setCell ⟨B5,0,none⟩ (.int .i64 n)):=
 {h with k:=h.k.other h.n3,f:=h.f.other h.n1,t:=h.t.set _,below:=h.below.setCell h.l5 _}
theorem Fv.setF (h:Fv w0 Bk B4 B5 key a b w) (n:Int):Fv w0 Bk B4 B5 key n b (w.setCell ⟨B4,0,none⟩ (.int .i64 n)):=
 {h with k:=h.k.other h.n2,f:=h.f.set _,t:=h.t.other (fun e=>h.n1 e.symm),below:=h.below.setCell h.l4 _}
theorem Gz (w:World) (x y:ByteArray) (t:TypeId):(w.alloc (.cells #[.string x,.string y] t)).cell? ⟨w.heap.size,0,none⟩=some (.string x):=by
 have hn:(w.alloc (.cells #[.string x,.string y] t)).heap[w.heap.size]? =some (.cells #[.string x,.string y] t):=heap_alloc_new w _;simp only[World.cell?,hn];rfl
theorem Gd {w:World} {B C o:Nat} {v u:Value} (h:w.cell? ⟨B,o,none⟩=some v) (hne:B≠C):(w.setCell ⟨C,0,none⟩ u).cell? ⟨B,o,none⟩=some v:=by
 rw[World.cell?_setCell_other _ _ _ _ (fun e=>hne (by cases e;rfl))];exact h
theorem Qy (x y:ByteArray) (n:Int) (h:Fv w0 Bk B4 B5 key a b w) (hl:bl x key=true):
  Calls Tryz.prog 204 #[.agg #[.string x,.string y],.int .i64 n,.pointer (some ⟨Bk,0,none⟩),.pointer (some ⟨B5,0,none⟩),.pointer (some ⟨B4,0,none⟩)] w fun e w'=>e= .returned (.bool true)/\Fv w0 Bk B4 B5 key n n w':=by
 have l4:=h.f.lt;have l5:=h.t.lt;have h0:=h.step ((Below.refl _ w).alloc (o:= .cells #[.string x,.string y] 126) (Nat.le_refl _));have p0:=Gz w x y 126;obtain⟨W,hW⟩:∃W,w.alloc (.cells #[.string x,.string y] 126)=W:=⟨_,rfl⟩;have h1:=h0.setT n;have p1:=Gd (u:= .int .i64 n) p0 (show w.heap.size≠B5 by omega);have h2:=h1.setF n;have p2:=Gd (u:= .int .i64 n) p1 (show w.heap.size≠B4 by omega);rw[hW]at h0 p0 h1 p1 h2 p2;have q0:=h0.k.cell;have q1:=h1.k.cell;have q2:=h2.k.cell;have c5:=h0.t.cell;have f5:=h0.t.free;have c4:=h1.f.cell;have f4:=h1.f.free;have H2:Hid _:=h2;have hl2:Op.bytesLess x.toList key.toList=true:=hl;clear h h0 h1 h2 hl l4 l5;go_enter Tryz.func204,Tryz.ntmps204;go_wp2;go_ret;exact⟨rfl,H2.out⟩
theorem Qw (x y:ByteArray) (n:Int) (h:Fv w0 Bk B4 B5 key a b w) (hl:bl x key=false) (he:(x.toList == key.toList)=true):
  Calls Tryz.prog 204 #[.agg #[.string x,.string y],.int .i64 n,.pointer (some ⟨Bk,0,none⟩),.pointer (some ⟨B5,0,none⟩),.pointer (some ⟨B4,0,none⟩)] w fun e w'=>e= .returned (.bool false)/\Fv w0 Bk B4 B5 key a n w':=by
 have l5:=h.t.lt;have h0:=h.step ((Below.refl _ w).alloc (o:= .cells #[.string x,.string y] 126) (Nat.le_refl _));have p0:=Gz w x y 126;obtain⟨W,hW⟩:∃W,w.alloc (.cells #[.string x,.string y] 126)=W:=⟨_,rfl⟩;have h1:=h0.setT n;have p1:=Gd (u:= .int .i64 n) p0 (show w.heap.size≠B5 by omega);rw[hW]at h0 p0 h1 p1;have q0:=h0.k.cell;have q1:=h1.k.cell;have c5:=h0.t.cell;have f5:=h0.t.free;have H2:Hid _:=h1;have hl2:Op.bytesLess x.toList key.toList=false:=hl;clear h h0 h1 hl l5;go_enter Tryz.func204,Tryz.ntmps204;go_wp2;go_ret;exact⟨rfl,H2.out⟩
theorem Qx (x y:ByteArray) (n:Int) (h:Fv w0 Bk B4 B5 key a b w) (hl:bl x key=false) (he:(x.toList == key.toList)=false):
  Calls Tryz.prog 204 #[.agg #[.string x,.string y],.int .i64 n,.pointer (some ⟨Bk,0,none⟩),.pointer (some ⟨B5,0,none⟩),.pointer (some ⟨B4,0,none⟩)] w fun e w'=>e= .returned (.bool false)/\Fv w0 Bk B4 B5 key a b w':=by
 have h0:=h.step ((Below.refl _ w).alloc (o:= .cells #[.string x,.string y] 126) (Nat.le_refl _));have p0:=Gz w x y 126;obtain⟨W,hW⟩:∃W,w.alloc (.cells #[.string x,.string y] 126)=W:=⟨_,rfl⟩;rw[hW]at h0 p0;have q0:=h0.k.cell;have H2:Hid _:=h0;have hl2:Op.bytesLess x.toList key.toList=false:=hl;clear h h0 hl;go_enter Tryz.func204,Tryz.ntmps204;go_wp2;go_ret;exact⟨rfl,H2.out⟩
end
structure JK (ps:List Pr) (key:ByteArray) (j:Nat) (a b:Nat):Prop where
 le:j<=ps.length
 less:∀i (hi:i<j),bl (ps[i]'(by omega)).k key=true
 from_:a=szL (ps.take j)
 to_:(b=a/\(∀hj:j<ps.length,bl ps[j].k key=false/\(ps[j].k.toList == key.toList)=false))\/(∃hj:j<ps.length,(ps[j].k.toList == key.toList)=true/\bl ps[j].k key=false/\b=szL (ps.take (j+1)))
theorem Sh {t key:ByteArray} {ps:List Pr} {z:Nat} (hL:CJ t ps z) (w:World):
  Calls Tryz.prog 170 #[.string t,.string key] w fun e w'=>∃j a b,e= .returned (.tuple #[.int .i64 (a:Nat),.int .i64 (b:Nat)])/\JK ps key j a b/\Below w.heap.size w w':=by
 have HL:Hid _:=hL;have hmf:∀(fn:Fn) (first cap:Array Value) (w:World),(Instr.makeFunc fn first cap).run Tryz.prog w= .ok (.func fn first cap) w:=fun _ _ _ _=>rfl;have hb1:Below w.heap.size w (((w.alloc (.cells #[.string key] 9)).alloc (.cells #[.int .i64 0] 3)).alloc (.cells #[.int .i64 0] 3)):=(((Below.refl _ w).alloc (Nat.le_refl _) _).alloc (by simp) _).alloc (by simp;omega) _
 have HF:Hid (Fv w w.heap.size (w.heap.size+1) (w.heap.size+1+1) key 0 0 (((w.alloc (.cells #[.string key] 9)).alloc (.cells #[.int .i64 0] 3)).alloc (.cells #[.int .i64 0] 3))):=by
  have n1:=Ai.new w (.string key) 9;have n2:=Ai.new (w.alloc (.cells #[.string key] 9)) (.int .i64 0) 3;have n3:=Ai.new ((w.alloc (.cells #[.string key] 9)).alloc (.cells #[.int .i64 0] 3)) (.int .i64 0) 3;rw[World.size_alloc]at n2;rw[World.size_alloc,World.size_alloc]at n3;refine⟨(n1.below ((Below.refl _ _).alloc (Nat.le_refl _) _)).below ((Below.refl _ _).alloc (Nat.le_refl _) _),n2.below ((Below.refl _ _).alloc (Nat.le_refl _) _),n3,by omega,by omega,by omega,by omega,by omega,hb1⟩
 clear hL hb1;go_enter Tryz.func170,Tryz.ntmps170;go_wp2_with fail
 refine(Fm (fun j wx=>(∀i (hi:i<j) (hl:i<ps.length),bl ps[i].k key=true)/\Fv w w.heap.size (w.heap.size+1) (w.heap.size+1+1) key (szL (ps.take j):Nat) (szL (ps.take j):Nat) wx)
  (fun wx=>∃j a b,JK ps key j a b/\Fv w w.heap.size (w.heap.size+1) (w.heap.size+1+1) key (a:Nat) (b:Nat) wx) (enters_of Tryz.func204 (by kernel_rfl) rfl) HL.out (fun j wx hh=>⟨hh.1,hh.2.drew⟩) (fun j hj wx hh=> ?_) _ ⟨fun i hi=>absurd hi (Nat.not_lt_zero i),HF.out⟩).mono ?_
 ·obtain⟨h1,h2⟩:=hh
  cases hl:bl ps[j].k key
  ·cases he:(ps[j].k.toList == key.toList)
   ·refine(Qx _ _ _ h2 hl he).mono ?_
    rintro _ wy ⟨rfl,h3⟩;exact⟨false,rfl,j,_,_,⟨by omega,fun i hi=>h1 i hi (by omega),rfl,.inl ⟨rfl,fun _=>⟨hl,he⟩⟩⟩,h3⟩
   ·refine(Qw _ _ _ h2 hl he).mono ?_
    rintro _ wy ⟨rfl,h3⟩;exact⟨false,rfl,j,_,_,⟨by omega,fun i hi=>h1 i hi (by omega),rfl,.inr ⟨hj,he,hl,rfl⟩⟩,h3⟩
  ·refine(Qy _ _ _ h2 hl).mono ?_
   rintro _ wy ⟨rfl,h3⟩;refine⟨true,rfl,fun i hi hl2=> ?_,h3⟩
   by_cases e:i=j
   ·subst e;exact hl
   ·exact h1 i (by omega) hl2
 rintro _ w1 ⟨b,rfl,h1⟩
 obtain⟨j,f0,t0,hR,hV⟩:∃j a b,JK ps key j a b/\Fv w w.heap.size (w.heap.size+1) (w.heap.size+1+1) key (a:Nat) (b:Nat) w1:=by
  cases b
  ·exact h1
  ·exact⟨ps.length,_,_,⟨Nat.le_refl _,fun i hi=>h1.1 i hi hi,rfl,.inl ⟨rfl,fun hj=>absurd hj (Nat.lt_irrefl _)⟩⟩,h1.2⟩
 have HR:Hid (JK ps key j f0 t0):=hR;have HV:Hid _:=hV;clear h1 hR hV HF;have V0:=HV.out.drew;have V1:=V0.setF f0;have V2:=V1.setT t0;have C:∀ {wx:World},Fv w w.heap.size (w.heap.size+1) (w.heap.size+1+1) key (f0:Nat) (t0:Nat) wx->wx.cell? ⟨w.heap.size+1,0,none⟩=some (.int .i64 (f0:Nat))/\wx.cell? ⟨w.heap.size+1+1,0,none⟩=some (.int .i64 (t0:Nat))/\wx.frozen? ⟨w.heap.size+1,0,none⟩=false/\wx.frozen? ⟨w.heap.size+1+1,0,none⟩=false:=fun h=>⟨h.f.cell,h.t.cell,h.f.free,h.t.free⟩;have C0:Hid _:=C V0;have C1:Hid _:=C V1;have C2:Hid _:=C V2;have H2:Hid _:=V2;clear V0 V1 V2 C HV;go_wp2_with fail
 go_region_held3 (fun wx=>wx.cell? ⟨w.heap.size+1,0,none⟩=some (.int .i64 (f0:Nat))/\wx.cell? ⟨w.heap.size+1+1,0,none⟩=some (.int .i64 (t0:Nat))/\wx.frozen? ⟨w.heap.size+1,0,none⟩=false/\wx.frozen? ⟨w.heap.size+1+1,0,none⟩=false) (first|exact C0.out|exact C1.out|exact C2.out) (fail)
 go_wp2
 (try simp only[Exit.inBlock,Exit.then])
 exact bodyPost_ret (v:= .tuple #[.int .i64 (f0:Nat),.int .i64 (t0:Nat)]) (DH Tryz.results170 _ _ _ _ rfl rfl (RL H2.out.f.cell) (RL H2.out.t.cell)) rfl ⟨j,f0,t0,rfl,HR.out,H2.out.below⟩
def BT:List Pr->ByteArray
 | []=>⟨#[]⟩
 |x::_=>x.k
theorem Sg (x y:ByteArray) (n:Int) (B:Nat) (v:Value) (w:World) (h:Ai B v w):
  Calls Tryz.prog 202 #[.agg #[.string x,.string y],.int .i64 n,.pointer (some ⟨B,0,none⟩)] w fun e w'=>e= .returned (.bool false)/\Ai B (.string x) w'/\w.grownBy w' (some B):=by
 have h1:=h.below ((Below.refl _ w).alloc (o:= .cells #[.string x,.string y] 126) (Nat.le_refl _));have q:=h1.cell;have f:=h1.free;have p0:=Gz w x y 126;have HR:Hid _:=h1.set (.string x);have HG:Hid (w.grownBy ((w.alloc (.cells #[.string x,.string y] 126)).setCell ⟨B,0,none⟩ (.string x)) (some B)):=(DO ((Below.refl _ w).alloc (Nat.le_refl _) _) _).trans (Eg _ B 0 _);clear h h1;go_enter Tryz.func202,Tryz.ntmps202;go_wp2;go_ret;exact⟨rfl,HR.out,HG.out⟩
theorem Qv {t:ByteArray} {ps:List Pr} {z:Nat} (hL:CJ t ps z) (w:World):
  Calls Tryz.prog 168 #[.string t] w fun e w'=>e= .returned (.string (BT ps))/\Below w.heap.size w w':=by
 have HL:Hid _:=hL;have hmf:∀(fn:Fn) (first cap:Array Value) (w:World),(Instr.makeFunc fn first cap).run Tryz.prog w= .ok (.func fn first cap) w:=fun _ _ _ _=>rfl;have HO:Hid (Ai w.heap.size (.string ⟨#[]⟩) (w.alloc (.cells #[.string ⟨#[]⟩] 9))):=Ai.new w _ _;have HB:Hid (Below w.heap.size w (w.alloc (.cells #[.string ⟨#[]⟩] 9))):=(Below.refl _ w).alloc (Nat.le_refl _) _;clear hL;go_enter Tryz.func168,Tryz.ntmps168;go_wp2_with fail;refine(Fm (fun j wx=>j=0/\Ai w.heap.size (.string ⟨#[]⟩) wx/\Below w.heap.size w wx) (fun wx=>Ai w.heap.size (.string (BT ps)) wx/\Below w.heap.size w wx) (enters_of Tryz.func202 (by kernel_rfl) rfl) HL.out (fun j wx hh=>⟨hh.1,hh.2.1.drew,hh.2.2.drew⟩) (fun j hj wx hh=> ?_) _ ⟨rfl,HO.out,HB.out⟩).mono ?_
 ·obtain⟨rfl,hh1,hh2⟩:=hh
  refine(Sg _ _ _ _ _ _ hh1).mono ?_;rintro _ wy ⟨rfl,h1,h2⟩;refine⟨false,rfl,?_,hh2.grown h2 hh2.size (fun k e=>by cases e;exact Nat.le_refl _)⟩
  cases ps with
  |nil=>exact absurd hj (Nat.not_lt_zero _)
  |cons x r=>exact h1
 rintro _ w1 ⟨b,rfl,h1⟩
 obtain⟨h2,h3⟩:Ai w.heap.size (.string (BT ps)) w1/\Below w.heap.size w w1:=by
  cases b
  ·exact h1
  ·obtain⟨e,h2,h3⟩:=h1
   have:ps=[]:=List.length_eq_zero_iff.1 e;subst this;exact⟨h2,h3⟩
 have q:=h2.cell;have f:=h2.free;have HR:Hid _:=h2.set (.string (BT ps));have HB1:Hid (Below w.heap.size w (w1.setCell ⟨w.heap.size,0,none⟩ (.string (BT ps)))):=h3.setCell (Nat.le_refl _) _;clear h2 h3;go_wp2
 (try simp only[Exit.inBlock,Exit.then])
 exact bodyPost_ret (v:= .string (BT ps)) (Ax Tryz.results168 _ _ _ rfl (V7 HR.out.cell)) rfl ⟨rfl,HB1.out⟩
end
section
open Go.RowKit
end
section
open Go.RowKit
end
section
open Go.RowKit Go.Maps
theorem Fr (x:Int):IntKind.u8.wrap x=x % 256:=by
 simp[IntKind.wrap,IntKind.signed,IntKind.bits]
theorem AS (x:Int):IntKind.u8.wrap x=((Aq x).toNat:Int):=by
 have h1:(x % 256).toNat<256:=by omega
 unfold Aq;rw[UInt8.toNat_ofNat'];simp[IntKind.wrap,IntKind.signed,IntKind.bits];omega
section
variable {bp bd bm n:Nat} {p:Pg} {s:St} {w:World}
end
end
section
open Go.RowKit
def Pr.bytes (x:Pr):ByteArray:=⟨x.enc.toArray⟩
theorem Nz (x0 x1:Int) (h00:0<=x0) (h01:x0<256) (h10:0<=x1) (h11:x1<256) (W:World) (B:Nat) (h0:W.cell? ⟨B,0,none⟩=some (.int .u8 x0)) (h1:W.cell? ⟨B,1,none⟩=some (.int .u8 x1)):
  (convert 199 9 (.slice (some ⟨B,0,none⟩) 2 2)).run Tryz.prog W= .ok (.string ⟨#[Aq x0,Aq x1]⟩) W:=by
 have e0:x0=((Aq x0).toNat:Int):=by rw[<-AS,Fr,Int.emod_eq_of_lt h00 h01]
 have e1:x1=((Aq x1).toNat:Int):=by rw[<-AS,Fr,Int.emod_eq_of_lt h10 h11]
 have:=run_convert_bytes_back (P:=Tryz.prog) W 199 9 5 ⟨B,0,none⟩ 2 [Aq x0,Aq x1] Tryz.underlying199 Tryz.underlying5 Tryz.underlying9 (fun j hj=>by
  have:j<2:=by simpa using hj
  have e:j=0\/j=1:=by omega
  rcases e with rfl|rfl
  ·rw[Addr.add_zero',h0];exact congrArg (fun z=>some (Value.int .u8 z)) e0
  ·rw[show(⟨B,0,none⟩:Addr).add 1=⟨B,1,none⟩from rfl,h1];exact congrArg (fun z=>some (Value.int .u8 z)) e1)
 exact this
theorem KZ (n:Nat):Aq (n:Int)=UInt8.ofNat n:=by
 unfold Aq;apply UInt8.toNat_inj.1;rw[UInt8.toNat_ofNat',UInt8.toNat_ofNat'];omega
theorem S5 (x:Pr):(⟨#[Aq (x.k.size:Int),Aq (x.i.size:Int)]⟩:ByteArray)++x.k++x.i=x.bytes:=by
 apply ByteArray.ext;apply Array.toList_inj.1;rw[ByteArray.data_append,Array.toList_append,ByteArray.data_append,Array.toList_append,KZ,KZ];show [UInt8.ofNat x.k.size,UInt8.ofNat x.i.size]++x.k.data.toList++x.i.data.toList=x.enc.toArray.toList;unfold Pr.enc;simp
theorem JM (x:Pr) (hx:x.Ok) (w:World):
  Calls Tryz.prog 124 #[.agg #[.string x.k,.string x.i]] w fun e w'=>e= .returned (.string x.bytes)/\Below w.heap.size w w':=by
 obtain⟨h1,h2,h3⟩:=hx;have HB:Hid _:=S5 x;rw[<-HB.out];obtain⟨k,i⟩:=x;simp only at h1 h2 h3;have hcA:=Nz (k.size:Int) (i.size:Int) (by omega) (by omega) (by omega) (by omega);have hs:(⟨#[Aq (k.size:Int),Aq (i.size:Int)]⟩:ByteArray).size=2:=rfl;have hb1:Hid (Below w.heap.size w ((w.alloc (.cells #[.string k,.string i] 126)).alloc (.cells #[.int .u8 (k.size:Int),.int .u8 (i.size:Int)] 5))):=((Below.refl _ w).alloc (Nat.le_refl _) _).alloc (by simp) _;clear HB;go_enter Tryz.func124,Tryz.ntmps124;go_wp2;go_ret;exact⟨rfl,hb1.out⟩
structure I6 (t:ByteArray) (ps:List Pr) (j:Nat):Prop where
 lt:j<ps.length
 pos:0<j
 left:szL (ps.take j)<=1024
 right:szL (ps.drop j)<=1024
theorem Rd (ps:List Pr) (j:Nat):szL (ps.take j)+szL (ps.drop j)=szL ps:=by
 rw[<-Af,List.take_append_drop]
theorem MW {ps:List Pr} (hok:∀x∈ps,x.Ok) (h1:1024<szL ps) (h2:szL ps<=1186) {j:Nat} (hj:j<ps.length) (hb:szL (ps.take j)<szL ps / 2) (ha:szL ps / 2<=szL (ps.take (j+1))):I6 ⟨#[]⟩ ps (j+1):=by
 have e:=AO hj;have ok:=hok _ (List.getElem_mem hj);have hs:ps[j].sz<=162:=by unfold Pr.sz;have:=ok.2.1;have:=ok.2.2;omega
 have d:=Rd ps (j+1);refine⟨?_,by omega,by omega,by omega⟩;apply Nat.lt_of_not_le;intro hn;rw[List.take_of_length_le hn]at e;omega
theorem Qo (x y t:ByteArray) (n:Int) (B C:Nat) (v:Value) (w:World) (h:Ai B v w) (hC:Ai C (.string t) w) (hne:C≠B) (ht:t.size<=4096):
  Calls Tryz.prog 205 #[.agg #[.string x,.string y],.int .i64 n,.pointer (some ⟨B,0,none⟩),.pointer (some ⟨C,0,none⟩)] w fun e w'=>e= .returned (.bool (decide (n<(t.size:Int) / 2)))/\Ai B (.int .i64 n) w'/\Ai C (.string t) w'/\w.grownBy w' (some B):=by
 have hb:=(Below.refl _ w).alloc (o:= .cells #[.string x,.string y] 126) (Nat.le_refl _);have h1:=h.below hb;have c1:=hC.below hb;have q:=h1.cell;have f:=h1.free;have H1:Hid _:=h1.set (.int .i64 n);have q1:=H1.out.cell;have C1:Hid _:=c1.other (u:= .int .i64 n) hne;have q2:=C1.out.cell;have HG:Hid (w.grownBy ((w.alloc (.cells #[.string x,.string y] 126)).setCell ⟨B,0,none⟩ (.int .i64 n)) (some B)):=(DO hb _).trans (Eg _ B 0 _);have hd:Int.tdiv (t.size:Int) 2=(t.size:Int) / 2:=Int.tdiv_eq_ediv_of_nonneg (by omega);clear h h1 hC c1 hb;go_enter Tryz.func205,Tryz.ntmps205;go_wp2;go_ret;exact⟨rfl,H1.out,C1.out,HG.out⟩
def Cl (B:Nat) (v:Value) (ts:List ByteArray) (w:World):Prop:=w.ownsRow B 9 1 v ts.length (ts.map Value.string)
theorem VV (w:World) (B:Nat) (hB:B<=w.heap.size) (a:ByteArray):Cl B (.slice (some ⟨w.heap.size,0,none⟩) 1 1) [a] (w.alloc (.cells #[.string a] 9)):=
 ⟨rfl,.inr ⟨w.heap.size,1,_,rfl,hB,heap_alloc_new w _,Nat.le_refl _,by decide,rfl,rfl⟩⟩
theorem VU (w:World) (B:Nat) (hB:B<=w.heap.size) (a b:ByteArray):Cl B (.slice (some ⟨w.heap.size,0,none⟩) 2 2) [a,b] (w.alloc (.cells #[.string a,.string b] 9)):=
 ⟨rfl,.inr ⟨w.heap.size,2,_,rfl,hB,heap_alloc_new w _,Nat.le_refl _,by decide,rfl,rfl⟩⟩
theorem Oh (t:ByteArray) (ht:t.size<=1024) (w:World):
  Calls Tryz.prog 175 #[.string t] w fun e w'=>∃v,e= .returned v/\Cl w.heap.size v [t] w'/\Below w.heap.size w w':=by
 have h1:(t.size:Int)<=1024:=by omega
 have q:=(Ai.new w (.string t) 9).cell;have HR:Hid _:=VV (w.alloc (.cells #[.string t] 9)) w.heap.size (by simp) t;have HB:Hid (Below w.heap.size w ((w.alloc (.cells #[.string t] 9)).alloc (.cells #[.string t] 9))):=((Below.refl _ w).alloc (Nat.le_refl _) _).alloc (by simp) _;rw[World.size_alloc]at HR;go_enter Tryz.func175,Tryz.ntmps175;go_wp2;go_ret;exact⟨_,rfl,HR.out,HB.out⟩
set_option maxHeartbeats 1000000
theorem Og {t:ByteArray} {ps:List Pr} (hL:CJ t ps 0) (h1:1024<t.size) (h2:t.size<=1186) (w:World):
  Calls Tryz.prog 175 #[.string t] w fun e w'=>∃v j,e= .returned v/\I6 ⟨#[]⟩ ps j/\Cl w.heap.size v [t.extract 0 (szL (ps.take j)),t.extract (szL (ps.take j)) t.size] w'/\Below w.heap.size w w':=by
 have h3:¬(t.size:Int)<=1024:=by omega
 have HL:Hid _:=hL;have hsz:=hL.size;rw[Nat.add_zero]at hsz;have hmf:∀(fn:Fn) (first cap:Array Value) (w:World),(Instr.makeFunc fn first cap).run Tryz.prog w= .ok (.func fn first cap) w:=fun _ _ _ _=>rfl;have n1:=Ai.new w (.string t) 9;have n2:=n1.below ((Below.refl _ _).alloc (o:= .cells #[.int .i64 0] 3) (Nat.le_refl _));have n3:=Ai.new (w.alloc (.cells #[.string t] 9)) (.int .i64 0) 3;rw[World.size_alloc]at n3;have hb:=((Below.refl _ w).alloc (o:= .cells #[.string t] 9) (Nat.le_refl _)).alloc (o:= .cells #[.int .i64 0] 3) (by simp);have H0:Hid (Ai (w.heap.size+1) (.int .i64 0) ((w.alloc (.cells #[.string t] 9)).alloc (.cells #[.int .i64 0] 3))/\Ai w.heap.size (.string t) ((w.alloc (.cells #[.string t] 9)).alloc (.cells #[.int .i64 0] 3))/\Below w.heap.size w ((w.alloc (.cells #[.string t] 9)).alloc (.cells #[.int .i64 0] 3))):=⟨n3,n2,hb⟩;have q1:=n1.cell;have q2:=n2.cell;have HZ:Hid (t.size=szL ps):=hsz;clear n1 n2 n3 hb hL hsz;go_enter Tryz.func175,Tryz.ntmps175;go_wp2_with fail
 refine(Fm (fun j wx=>(j=0\/szL (ps.take j)<t.size / 2)/\(∃c:Int,Ai (w.heap.size+1) (.int .i64 c) wx)/\Ai w.heap.size (.string t) wx/\Below w.heap.size w wx)
  (fun wx=>∃j,I6 ⟨#[]⟩ ps j/\Ai (w.heap.size+1) (.int .i64 (szL (ps.take j):Nat)) wx/\Ai w.heap.size (.string t) wx/\Below w.heap.size w wx) (enters_of Tryz.func205 (by kernel_rfl) rfl) HL.out (fun j wx hh=>⟨hh.1,hh.2.1.elim fun c hc=>⟨c,hc.drew⟩,hh.2.2.1.drew,hh.2.2.2.drew⟩) (fun j hj wx hh=> ?_) _ ⟨.inl rfl,⟨0,H0.out.1⟩,H0.out.2.1,H0.out.2.2⟩).mono ?_
 ·obtain⟨g1,⟨c,g2⟩,g3,g4⟩:=hh
  have hle:=Eb ps (j+1);have hz:=HZ.out;refine(Qo _ _ t _ _ _ _ _ g2 g3 (by omega) (by omega)).mono ?_;rintro _ wy ⟨rfl,k1,k2,k3⟩;have k4:Below w.heap.size w wy:=g4.grown k3 g4.size (fun k e=>by cases e;omega)
  by_cases hc:szL (ps.take (j+1))<t.size / 2
  ·rw[decide_eq_true (show((szL (ps.take (j+1)):Nat):Int)<(t.size:Int) / 2 by omega)]
   exact⟨true,rfl,.inr hc,⟨_,k1⟩,k2,k4⟩
  ·rw[decide_eq_false (show ¬((szL (ps.take (j+1)):Nat):Int)<(t.size:Int) / 2 by omega)]
   refine⟨false,rfl,j+1,MW HL.out.ok (by omega) (by omega) hj ?_ (by omega),k1,k2,k4⟩;rcases g1 with g1|g1
   ·subst g1
    show 0<_;omega
   ·omega
 rintro _ w1 ⟨b,rfl,h4⟩
 obtain⟨j,g1,g2,g3,g4⟩:∃j,I6 ⟨#[]⟩ ps j/\Ai (w.heap.size+1) (.int .i64 (szL (ps.take j):Nat)) w1/\Ai w.heap.size (.string t) w1/\Below w.heap.size w w1:=by
  cases b
  ·exact h4
  ·exfalso
   have hz:=HZ.out;rcases h4.1 with e|e
   ·have:ps=[]:=List.length_eq_zero_iff.1 e
    subst this
    change t.size=0 at hz
    omega
   ·rw[List.take_length]at e
    omega
 have hle:=Eb ps j;have hz:=HZ.out;have HR:Hid _:=VU w1.drew w.heap.size g4.size (t.extract 0 (szL (ps.take j))) (t.extract (szL (ps.take j)) t.size);have HB:Hid (Below w.heap.size w (w1.drew.alloc (.cells #[.string (t.extract 0 (szL (ps.take j))),.string (t.extract (szL (ps.take j)) t.size)] 9))):=g4.drew.alloc g4.size _;have G1:Hid _:=g1;have c1:=g2.drew.cell;have c2:=g3.drew.cell;clear g2 g3 g4 h4 H0 q1 q2;have hcle:szL (ps.take j)<=t.size:=by omega
 obtain⟨cut,hcut⟩:∃c,szL (ps.take j)=c:=⟨_,rfl⟩;rw[hcut]at HR HB c1 hcle;have HCUT:Hid _:=hcut;clear hcut hle hz;have hi:(cut:Int)<=(t.size:Int):=by omega
 have C0:Hid (w1.drew.cell? ⟨w.heap.size,0,none⟩=some (.string t)/\w1.drew.cell? ⟨w.heap.size+1,0,none⟩=some (.int .i64 (cut:Nat))):=⟨c2,c1⟩
 have C1:Hid ((w1.drew.alloc (.cells #[.string (t.extract 0 cut),.string (t.extract cut t.size)] 9)).cell? ⟨w.heap.size,0,none⟩=some (.string t)/\(w1.drew.alloc (.cells #[.string (t.extract 0 cut),.string (t.extract cut t.size)] 9)).cell? ⟨w.heap.size+1,0,none⟩=some (.int .i64 (cut:Nat))):=
  ⟨by rw[World.cell?_alloc_some _ _ _ (by rw[c2];rfl)];exact c2,by rw[World.cell?_alloc_some _ _ _ (by rw[c1];rfl)];exact c1⟩
 clear c1 c2;go_wp2_with fail
 go_region_held3 (fun wx=>wx.cell? ⟨w.heap.size,0,none⟩=some (.string t)/\wx.cell? ⟨w.heap.size+1,0,none⟩=some (.int .i64 (cut:Nat))) (first|exact C0.out|exact C1.out) (fail)
 go_wp2;go_ret;exact⟨_,j,rfl,G1.out,by rw[HCUT.out];exact HR.out,HB.out⟩
end
end Go.Proofs.YtihnldkgeelehaaGreatDoor
