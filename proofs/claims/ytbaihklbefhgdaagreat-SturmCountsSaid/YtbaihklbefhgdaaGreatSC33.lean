/-
  
-/
import Derived.Test.YtbaihklbefhgdaaGreatSC32
import Derived.Test.YtbaihklbefhgdaaGreatSC13
import Derived.Test.YtbaihklbefhgdaaGreatSC27
import Derived.Test.YtbaihklbefhgdaaGreatSC29
set_option linter.unusedVariables false
set_option linter.unusedSimpArgs false
set_option linter.unusedSectionVars false
namespace Go.Proofs.YtbaihklbefhgdaaGreat
open Go.RowKit
open Go.Lib (hid)
open Dg Zn
namespace Vc
section
variable {cx:Cx Dm} {n:Nat} {σ:St Dm} {o:Oper} {d t:Nat} {j:Operand}
end
section
variable {cx:Cx Dm} {n:Nat} {σ:St Dm} {o:Oper} {d t:Nat} {j:Operand}
theorem aDi (ho:o.op=.build 28 #[]) (hd:o.dst=some d) (hn:d<n):aN Tryz.prog cx n σ o [] [(.s d,.av (.one (.d (.int 0 0))))]:=by
 refine fE hd hn rfl fun σ' ρ a w h hk=>⟨.agg #[.bool false,.slice none 0 0],?_,?_⟩
 ·have hb:Tryz.prog.built 28 (#[]:Array (Nat × Value)).toList=some #[.bool false,.slice none 0 0]:=by kernel_rfl
  have hb2:=run_build w 28 #[] _ hb;simp only[execOp,ho,Sem.run_bind];rw[show (#[]:Array (Nat × Operand)).map (fun p=>(p.1,a.eval p.2))=#[] by simp,hb2];rfl
 ·intro w' _;exact⟨uJ w',by show (aA 0).length<=0; rw[gA]; exact Nat.le_refl _⟩
end
theorem aC8 (z m:Int) (h1 : -9223372036854775808<=z) (h2:z<=9223372036854775807) (hm:1<=m) (hm2:m<=9223372036854775807):aD (D:=Dm) Tryz.prog 15 [.v (.int .i64 z),.v (.int .i64 m)] (.one (.v (.int .i64 (dT z m)))):=by
 rintro L ρ w vs hlt hn hwf hall
 match vs,hall with
 | [u,u'],⟨h3,h4,_⟩ =>
  obtain rfl:u=_:=h3;obtain rfl:u'=_:=h4;refine(aSb z m w h1 h2 hm hm2).mono ?_;rintro e w' ⟨rfl,rfl⟩;exact⟨_,rfl,Below.refl _ _,rfl⟩
theorem aE1 (z:Int) (h1 : -9223372036854775808<=z) (h2:z<=9223372036854775807):aD Tryz.prog 100 [.v (.int .i64 z)] (.one (.d (Dm.int z 3))) :=
 aLl (fun w=>wL z w h1 h2) (by rw[mQ]; omega)
theorem aU3 (x y:Int) {j k:Nat} (hj:j<=1000000000) (hk:k<=1000000000):aD Tryz.prog 99 [.d (Dm.int x j),.d (Dm.int y k)] (.one (.d (Dm.int (x+y) (j+k+1)))) :=
 uL (fun vx vy w h1 h2 l1 l2=>aHt vx vy x y w h1 h2 (by omega) (by omega)) fun l1 l2=>aAs l1 l2
theorem pB (x y:Int) {j k:Nat} (hj:j<=1000000000) (hk:k<=1000000000):aD Tryz.prog 76 [.d (Dm.int x j),.d (Dm.int y k)] (.one (.d (Dm.int (x*y) (j+k)))) :=
 uL (fun vx vy w h1 h2 l1 l2=>aHr vx vy x y w h1 h2 (by omega) (by omega)) fun l1 l2=>qT l1 l2
theorem aU1 (x y:Int) {j k:Nat} (hj:j<=1000000000) (hk:k<=1000000000):aD Tryz.prog 167 [.d (Dm.int x j),.d (Dm.int y k)] (.one (.d (Dm.int ((Int.gcd x y:Nat):Int) (j+k)))):=by
 refine uL (fun vx vy w h1 h2 l1 l2=>aRh vx vy x y w h1 h2 (by omega) (by omega)) fun l1 l2=>?_;by_cases hx:x=0
 ·subst hx;refine Nat.le_trans (oF ?_) (Nat.le_trans l2 (Nat.le_add_left ..));simp
 ·refine Nat.le_trans (oF (y:=x) ?_) (Nat.le_trans l1 (Nat.le_add_right ..));have:=Nat.le_of_dvd (Int.natAbs_pos.2 hx) (Int.gcd_dvd_natAbs_left x y);simpa using this
theorem aG9 (x y:Int) {j k:Nat}:aD Tryz.prog 75 [.d (Dm.int x j),.d (Dm.int y k)] (.one (.v (.int .i64 (bA x y)))) :=
 aEh fun vx vy w h1 h2=>aPt vx vy x y w h1 h2
theorem aDx (x:Int) {j:Nat}:aD Tryz.prog 78 [.d (Dm.int x j)] (.one (.d (Dm.int (-x) j))) :=
 aLk (fun vx w h1 _=>aRg vx x w h1) fun l1=>aAr l1
theorem aIy (x y:Int) {j k:Nat}:aD Tryz.prog 97 [.d (Dm.int x j),.d (Dm.int y k)] (.one (.v (.bool (decide (x=y))))) :=
 aEh fun vx vy w h1 h2=>aWn vx vy x y w h1 h2
/-! The kinds. -/
def cA (k:Option Nat) (l:List (SA Dm)):rN where
 is:=fun w v=>∃ ao cap,v=.slice ao l.length cap/\(l.length<=cap/\cap<=maxLen)/\(0<l.length->∃ b off,ao=some ⟨b,off,none⟩/\∃ cs:List Value,dF w k l cs/\∀ j u,cs[j]?=some u->w.cell? ⟨b,off+j,none⟩=some u)
 shape:=none
 plain:=true
 ok:=fun w v ⟨ao,cap,h,_⟩=>by subst h; exact⟨_,rfl,rfl⟩
 pl:=fun _ w v ⟨ao,cap,h,_⟩=>by subst h; simp[Value.cells,cZ]
def pG (k:Option Nat) (s:SA Dm):rN where
 is:=fun w v=>∃ b off u,v=.pointer (some ⟨b,off,none⟩)/\∃ cs:List Value,Shaped k u cs/\s.at w u/\∀ j c,cs[j]?=some c->w.cell? ⟨b,off+j,none⟩=some c
 shape:=none
 plain:=true
 ok:=fun w v ⟨b,off,u,h,_⟩=>by subst h; exact⟨_,rfl,rfl⟩
 pl:=fun _ w v ⟨b,off,u,h,_⟩=>by subst h; simp[Value.cells,cZ]
def aBq (w:World):List (SA Dm)->List Value->Prop
 | [],[]=>True
 | s::l,v::m=>s.at w v/\aBq w l m
 | _,_=>False
def rM (f:FuncId) (caps:List (SA Dm)):rN where
 is:=fun w v=>∃ vs:List Value,v=.func (.func f) #[] vs.toArray/\aBq w caps vs
 shape:=none
 plain:=true
 ok:=fun w v ⟨vs,h,_⟩=>by subst h; exact⟨_,rfl,rfl⟩
 pl:=fun _ w v ⟨vs,h,_⟩=>by subst h; simp[Value.cells,cZ]
theorem cS (k:Option Nat) (l:List (SA Dm)):Lst (Dm.gen (cA k l)) k l:=fun w b off c cs hl hm h1 h2=>⟨_,_,rfl,⟨hl,hm⟩,fun _=>⟨b,off,rfl,cs,h1,h2⟩⟩
theorem iS (k:Option Nat) (l:List (SA Dm)):l=[]->aGr (Dm.gen (cA k l)):=by
 rintro rfl w a;exact⟨a,0,rfl,⟨Nat.le_refl _,by decide⟩,fun h=>absurd h (Nat.lt_irrefl _)⟩
theorem aMk {L:Nat->Prop} {w:World} {b o:Nat} (h:∀ w',Agree L w w'->∃ c,w'.cell? ⟨b,o,none⟩=some c):¬ L b/\b<w.heap.size:=by
 obtain⟨c,hc⟩:=h w (Agree.refl _ _);have hlt:b<w.heap.size:=by
  rcases Nat.lt_or_ge b w.heap.size with hb | hb
  ·exact hb
  ·exfalso;simp only[World.cell?] at hc;rw[Array.getElem?_eq_none (by omega)] at hc;cases hc
 refine⟨fun hL=>?_,hlt⟩;obtain⟨c',hc'⟩:=h { w with heap:=w.heap.set b (.cells #[] 0 (0,0)) } ⟨by simp,fun q hq hnq=>by
  have:q≠b:=fun e=>hnq (e ▸ hL);simp[Array.getElem?_set,Ne.symm this]⟩
 simp[World.cell?,hlt] at hc'
theorem zZ {L:Nat->Prop} {w w':World} {b:Nat} (h:¬ L b/\b<w.heap.size) (hw:Agree L w w') (o:Nat):w'.cell? ⟨b,o,none⟩=w.cell? ⟨b,o,none⟩:=World.cell?_of_block (hw.2 b h.2 h.1)
theorem aIi {w:World} {b off:Nat} {cs cs':List Value} (hl:cs.length=cs'.length) (h:∀ j u,cs[j]?=some u->w.cell? ⟨b,off+j,none⟩=some u) (h':∀ j u,cs'[j]?=some u->w.cell? ⟨b,off+j,none⟩=some u):cs=cs':=by
 apply List.ext_getElem hl;intro i h1 h2;have e1:=h i cs[i] (List.getElem?_eq_getElem h1);have e2:=h' i cs'[i] (List.getElem?_eq_getElem h2);exact Option.some.inj (e1.symm.trans e2)
theorem uI {L:Nat->Prop} {ρ:aR} {w:World} {v:Value} {k:Option Nat} {l:List (SA Dm)} (hk:0<k.getD 1) (h:(SA.d (Dm.gen (cA k l))).is L ρ w v) :
  ∃ ao cap,v=.slice ao l.length cap/\(l.length<=cap/\cap<=maxLen)/\(0<l.length->∃ b off,ao=some ⟨b,off,none⟩/\(¬ L b/\b<w.heap.size)/\∃ cs:List Value,(∀ w',Agree L w w'->dF w' k l cs)/\∀ j u,cs[j]?=some u->w.cell? ⟨b,off+j,none⟩=some u):=by
 obtain⟨ao,cap,rfl,hle,hc⟩:=h w (Agree.refl _ _);refine⟨ao,cap,rfl,hle,fun hl=>?_⟩;obtain⟨b,off,rfl,cs,h1,h2⟩:=hc hl;have hlen:∀ {w':World} {cs':List Value},dF w' k l cs'->cs'.length=l.length*k.getD 1:=fun h=>h.length;have hpos:0<l.length*k.getD 1:=Nat.mul_pos hl hk;have key:∀ w',Agree L w w'->∃ cs':List Value,dF w' k l cs'/\∀ j u,cs'[j]?=some u->w'.cell? ⟨b,off+j,none⟩=some u:=by
  intro w' hw;obtain⟨ao',cap',e,_,hc'⟩:=h w' hw;injection e with e1 e2 e3;obtain⟨b',off',e4,cs',g1,g2⟩:=hc' hl;rw[<- e1] at e4;injection e4 with e4;injection e4 with e5 e6;subst e5; subst e6;exact⟨cs',g1,g2⟩
 have hnL:¬ L b/\b<w.heap.size:=aMk (o:=off) fun w' hw=>by
  obtain⟨cs',g1,g2⟩:=key w' hw;exact⟨_,g2 0 _ (List.getElem?_eq_getElem (by rw[hlen g1]; exact hpos))⟩
 refine⟨b,off,rfl,hnL,cs,fun w' hw=>?_,h2⟩;obtain⟨cs',g1,g2⟩:=key w' hw;have:cs=cs':=aIi (w:=w) (b:=b) (off:=off) (by rw[hlen h1,hlen g1]) h2 fun j u hj=>by rw[<- zZ hnL hw]; exact g2 j u hj
 rw[this];exact g1
theorem gU {k:Option Nat} {l:List (SA Dm)} (hk:0<k.getD 1) (hp:l.flatMap SA.ptrs=[]):yD (SA.d (Dm.gen (cA k l))) k l:=by
 refine⟨rfl,hp,fun L ρ w v h=>?_⟩;obtain⟨ao,cap,rfl,_,h1⟩:=uI hk h;refine⟨ao,cap,rfl,fun hl=>?_⟩;obtain⟨b,off,e,_,cs,h2,h3⟩:=h1 hl;exact⟨b,off,e,cs,h3,aNi h2⟩
theorem aNx {L:Nat->Prop} {ρ:aR} {w:World} {v:Value} {k:Option Nat} {s:SA Dm} (hk:0<k.getD 1) (h:(SA.d (Dm.gen (pG k s))).is L ρ w v) :
  ∃ b off u,v=.pointer (some ⟨b,off,none⟩)/\(¬ L b/\b<w.heap.size)/\∃ cs:List Value,Shaped k u cs/\(∀ w',Agree L w w'->s.at w' u)/\∀ j c,cs[j]?=some c->w.cell? ⟨b,off+j,none⟩=some c:=by
 obtain⟨b,off,u,rfl,cs,h1,h2,h3⟩:=h w (Agree.refl _ _);have key:∀ w',Agree L w w'->∃ u' cs',Shaped k u' cs'/\s.at w' u'/\∀ j c,cs'[j]?=some c->w'.cell? ⟨b,off+j,none⟩=some c:=by
  intro w' hw;obtain⟨b',off',u',e,cs',g1,g2,g3⟩:=h w' hw;injection e with e;injection e with e;injection e with e1 e2;subst e1; subst e2;exact⟨u',cs',g1,g2,g3⟩
 have hnL:¬ L b/\b<w.heap.size:=aMk (o:=off) fun w' hw=>by
  obtain⟨u',cs',g1,g2,g3⟩:=key w' hw;exact⟨_,g3 0 _ (List.getElem?_eq_getElem (by rw[g1.length]; exact hk))⟩
 refine⟨b,off,u,rfl,hnL,cs,h1,fun w' hw=>?_,h3⟩;obtain⟨u',cs',g1,g2,g3⟩:=key w' hw;have:cs=cs':=aIi (w:=w) (b:=b) (off:=off) (by rw[h1.length,g1.length]) h3 fun j u hj=>by rw[<- zZ hnL hw]; exact g3 j u hj
 subst this;rw[h1.same g1];exact g2
theorem yC {L:Nat->Prop} {ρ:aR} {w:World} {s:SA Dm} {v:Value} (h:∀ w',Agree L w w'->s.at w' v):s.is L ρ w v:=by
 cases s with
 | v x=>exact h w (Agree.refl _ _)
 | d x=>exact h
 | ptr b o=>exact(h w (Agree.refl _ _)).elim
 | sl b n=>exact(h w (Agree.refl _ _)).elim
 | ar b n=>exact(h w (Agree.refl _ _)).elim
 | lk x=>exact(h w (Agree.refl _ _)).elim
theorem aYk {w:World} {s:SA Dm} {v:Value} (h:s.at w v):s.ptrs=[]:=by
 cases s with
 | v x=>rfl
 | d x=>rfl
 | ptr b o=>exact h.elim
 | sl b n=>exact h.elim
 | ar b n=>exact h.elim
 | lk x=>exact h.elim
section
variable {P:Program} {cx:Cx Dm} {n:Nat} {σ:St Dm} {o:Oper} {d t:Nat} {x y j:Operand}
/-! Operations. -/
theorem lL {ty:TypeId} {s:SA Dm} {k:Option Nat} (ho:o.op=.box ty x:=by exact rfl) (hd:o.dst=some d:=by exact rfl) (hn:d<n:=by exact bd) (hx:opd σ x=.av (.one s):=by exact rfl) (hk:s.kind=some k:=by exact rfl) (hp:s.ptrs=[]:=by exact rfl) :
  aN P cx n σ o (bH x) [(.s d,.av (.one (.d (.gen (pG k s)))))]:=by
 intro σ' a w Q ⟨ρ,h⟩ h1 h2 K hK;have hx':=(cR h1).trans hx;have hs:=h.opd hx';obtain⟨cs,hcs⟩:=mG hk hs;have hr:(execOp a.eval o).run P w=.ok (.value (.pointer (some ⟨w.heap.size,0,none⟩))) (w.alloc (.cells cs.toArray ty)):=by
  rw[<- hcs.cells];simp only[execOp,ho,Sem.run_bind,Instr.box,newVar,newRow,run_newObj_alloc,Sem.run_pure,Result.andThen_ok]
 unfold Oper.wp;rw[hr,Oper.upon_value,hd];have hb:Below w.heap.size w (w.alloc (.cells cs.toArray ty)):=(Below.refl _ _).alloc (Nat.le_refl _) _;refine hK _ _ ⟨ρ,h.put hb hn ?_ (by intro b hb; cases hb)⟩;intro w' hag;have hg:w'.heap[w.heap.size]?=some (.cells cs.toArray ty (0,0)):=by
  rw[hag.2 w.heap.size (by simp) (fun hL=>by have:=h.lofLt _ hL; omega)];exact heap_alloc_new w _
 refine⟨w.heap.size,0,_,rfl,cs,hcs,aAh hs hp ((Agree.below hb).trans hag),fun j c hj=>?_⟩;rw[Nat.zero_add,cell_of_row w' _ _ _ ty _ hg,List.getElem?_toArray];exact hj
theorem vW {w:World} {b off:Nat} {cs:List Value} {ty:TypeId} {k:Option Nat} {v:Value} (hc:∀ j c,cs[j]?=some c->w.cell? ⟨b,off+j,none⟩=some c) (hs:Shaped k v cs) (hty:dL P ty k):(loadVar ty ⟨b,off,none⟩).run P w=.ok v w:=by
 cases k with
 | some m =>
  obtain⟨⟨d,hu,hd⟩,hi⟩:=hty;rw[hs.1];exact run_loadVar_mid w b off ty cs d hc hu hd (by rw[hi,hs.2.1])
 | none =>
  obtain⟨⟨d,hu,hd⟩,hi⟩:=hty;have hc:=hc 0 v (by rw[hs.1]; rfl);have hagg:(isAgg ty).run P w=.ok false w:=by
   unfold isAgg;rw[Sem.run_bind,run_underlying hu w];cases d<;>simp_all
  rw[Nat.add_zero] at hc;simp[loadVar,Sem.run_bind,hagg,load,Sem.run,hc]
theorem bT {ty:TypeId} {k:Option Nat} {s:SA Dm} (hty:dL P ty k) (ho:o.op=.load ty (.tmp t):=by exact rfl) (hd:o.dst=some d:=by exact rfl) (hn:d<n:=by exact bd) (ht:σ (.s t)=.av (.one (.d (.gen (pG k s)))):=by exact rfl) (hk:0<k.getD 1:=by decide) :
  aN P cx n σ o [.s t] [(.s d,.av (.one s))]:=by
 intro σ' a w Q ⟨ρ,h⟩ h1 _ K hK;have ht':=(h1 (.s t) (by simp)).trans ht;obtain⟨b,off,u,e1,_,cs,h3,h4,h5⟩:=aNx (ρ:=ρ) hk (h.slt t _ ht');have e1:a.eval (.tmp t)=.pointer (some ⟨b,off,none⟩):=e1;have hr:(execOp a.eval o).run P w=.ok (.value u) w:=by
  simp only[execOp,ho,e1,Sem.run_bind,Instr.loadAt,Instr.sureAddr,Sem.run_pure,Result.andThen_ok,vW h5 h3 hty]
 unfold Oper.wp;rw[hr,Oper.upon_value,hd];exact hK _ _ ⟨ρ,h.put (Below.refl _ _) hn (yC h4) (by show ∀ b∈s.ptrs,_; rw[aYk (h4 w (Agree.refl _ _))]; intro b hb; cases hb)⟩
theorem cV {ty e:TypeId} {i:Nat} {k:Option Nat} {l:List (SA Dm)} {s:SA Dm} (hs:l[i]?=some s) (hu:P.underlying ty=some (.slice e)) (hsz:(P.info? e).map (·.size)=some (k.getD 1)) (ho:o.op=.indexAddr ty (.tmp t) j:=by exact rfl) (hd:o.dst=some d:=by exact rfl) (hn:d<n:=by exact bd) (ht:σ (.s t)=.av (.one (.d (.gen (cA k l)))):=by exact rfl) (hj:opd σ j=.av (.one (.v (.int .i64 (i:Int)))):=by exact rfl) (hk:0<k.getD 1:=by decide):aN P cx n σ o (.s t::bH j) [(.s d,.av (.one (.d (.gen (pG k s)))))]:=by
 refine fE hd hn rfl fun σ' ρ a w h hk'=>?_;have hi:i<l.length:=(List.getElem?_eq_some_iff.1 hs).1;have ht':=(hk' (.s t) (by simp)).trans ht;obtain⟨ao,cap,e1,_,h2⟩:=uI (ρ:=ρ) hk (h.slt t _ ht');obtain⟨b,off,rfl,hnL,cs,h3,h4⟩:=h2 (by omega);have e1:a.eval (.tmp t)=.slice (some ⟨b,off,none⟩) l.length cap:=e1;have e2:a.eval j=.int .i64 (i:Int):=h.opd ((cR fun q hq=>hk' q (by simp[hq])).trans hj);refine⟨.pointer (some ⟨b,off+i*k.getD 1,none⟩),?_,?_⟩
 ·simp only[execOp,ho,e1,e2,Sem.run_bind,aIt hu hsz w b off _ cap i hi,Result.andThen_ok,Sem.run_pure]
 ·intro w' hag;obtain⟨pre,p,post,v,q1,q2,q3,q4⟩:=(h3 w' hag).at hs;refine⟨b,off+i*k.getD 1,v,rfl,p,q3,q4,fun m c hm=>?_⟩;rw[zZ hnL hag,Nat.add_assoc];refine h4 _ _ ?_;rw[q1,List.append_assoc,List.getElem?_append_right (by omega),q2,Nat.add_sub_cancel_left,List.getElem?_append_left (List.getElem?_eq_some_iff.1 hm).1];exact hm
theorem bL {ty e:TypeId} {k:Option Nat} {l:List (SA Dm)} {m:Nat} (hm:l.length=m) (hu:P.underlying ty=some (.slice e)) (ho:o.op=.call ⟨.builtin .len,#[.tmp t],#[ty]⟩:=by exact rfl) (hd:o.dst=some d:=by exact rfl) (hn:d<n:=by exact bd) (ht:σ (.s t)=.av (.one (.d (.gen (cA k l)))):=by exact rfl):aN P cx n σ o [.s t] [(.s d,.av (.one (.v (.int .i64 (m:Int)))))]:=by
 subst hm;refine fE hd hn rfl fun σ' ρ a w h hk=>⟨_,?_,rfl⟩
 obtain⟨ao,c,hv,_⟩:=(h.slt t _ ((hk (.s t) (by simp)).trans ht)) w (Agree.refl _ _);have e1:a.eval (.tmp t)=.slice ao l.length c:=hv;simp[execOp,ho,resolve,invoke,e1,builtin,Builtin.len_,run_underlying hu,goInt]
def aBy:Option Operand->List Key
 | none=>[]
 | some x=>bH x
def aBp (σ:St Dm):Option Operand->Option Nat->Prop
 | none,none=>True
 | some x,some m=>opd σ x=.av (.one (.v (.int .i64 (m:Int))))
 | _,_=>False
theorem aEl {ρ:aR} {a:Act} {w:World} {σ':St Dm} {x:Option Operand} {m:Option Nat} (h:Conc cx n ρ σ' a w) (hx:aBp σ x m) (hk:∀ q∈aBy x,σ' q=σ q):x.map a.eval=gQ m:=by
 cases x with
 | none=>cases m with | none=>rfl | some m=>exact hx.elim
 | some x =>
  cases m with
  | none=>exact hx.elim
  | some m =>
   have:a.eval x=.int .i64 (m:Int):=h.opd ((cR hk).trans hx);simp[gQ,this]
theorem pK {ty e:TypeId} {k:Option Nat} {l l':List (SA Dm)} {lo hi mx:Option Operand} (lo' hi' mx':Option Nat) (hl:(l.take (hi'.getD l.length)).drop (lo'.getD 0)=l') (hk:0<k.getD 1) (hle1:lo'.getD 0<=hi'.getD l.length) (hle2:hi'.getD l.length<=mx'.getD l.length) (hle3:mx'.getD l.length<=l.length) (h4:hi'=none->mx'=none)
  (hu:P.underlying ty=some (.slice e)) (hsz:(P.info? e).map (·.size)=some (k.getD 1)) (ho:o.op=.slice ty (.tmp t) lo hi mx) (hd:o.dst=some d) (hn:d<n)
  (ht:σ (.s t)=.av (.one (.d (.gen (cA k l))))) (hlo:aBp σ lo lo') (hhi:aBp σ hi hi') (hmx:aBp σ mx mx'):aN P cx n σ o (.s t::(aBy lo++aBy hi++aBy mx)) [(.s d,.av (.one (.d (.gen (cA k l')))))]:=by
 refine fE hd hn rfl fun σ' ρ a w h hk'=>?_;have ht':=(hk' (.s t) (by simp)).trans ht;obtain⟨ao,cap,e1,hcap,h2⟩:=uI (ρ:=ρ) hk (h.slt t _ ht');have e1:a.eval (.tmp t)=.slice ao l.length cap:=e1;have f1:=aEl h hlo fun q hq=>hk' q (by simp[hq]);have f2:=aEl h hhi fun q hq=>hk' q (by simp[hq]);have f3:=aEl h hmx fun q hq=>hk' q (by simp[hq]);have hm1:hi'.getD l.length<=mx'.getD cap:=by cases mx' with | none=>exact Nat.le_trans hle2 hcap.1 | some m=>exact hle2
 have hm2:mx'.getD cap<=cap:=by cases mx' with | none=>exact Nat.le_refl _ | some m=>exact Nat.le_trans hle3 hcap.1
 have hr:=aMd (P:=P) w hu hsz ao l.length cap lo' hi' mx' hle1 hm1 hm2 h4;have hlen:l'.length=hi'.getD l.length-lo'.getD 0:=by
  rw[<- hl,List.length_drop,List.length_take];omega
 refine⟨.slice (if mx'.getD cap=lo'.getD 0 then ao else ao.map (·.add (lo'.getD 0*k.getD 1))) (hi'.getD l.length-lo'.getD 0) (mx'.getD cap-lo'.getD 0),by simp only[execOp,ho,e1,f1,f2,f3,Sem.run_bind,hr,Result.andThen_ok,Sem.run_pure],?_⟩;intro w' hag;rw[<- hlen];refine⟨_,_,rfl,⟨by rw[hlen]; omega,by have:=hcap.2; omega⟩,fun hp=>?_⟩;obtain⟨b,off,rfl,hnL,cs,h3,h4'⟩:=h2 (by omega);have hne:¬ mx'.getD cap=lo'.getD 0:=by omega
 refine⟨b,off+lo'.getD 0*k.getD 1,by rw[if_neg hne]; simp[Addr.add_mid],(cs.take (hi'.getD l.length*k.getD 1)).drop (lo'.getD 0*k.getD 1),by rw[<- hl]; exact((h3 w' hag).take _).drop _,fun m c hm=>?_⟩;rw[zZ hnL hag,Nat.add_assoc];refine h4' _ _ ?_;rw[List.getElem?_drop] at hm;have:=List.getElem?_take .. ▸ hm;split at this
 ·exact this
 ·cases this
theorem uR {f:FuncId} {caps:List Operand} {ss:List (SA Dm)} (ho:o.op=.makeFunc (.func f) #[] caps.toArray) (hd:o.dst=some d) (hn:d<n) (hargs:dY σ caps ss) (hp:gK ss=[]):aN P cx n σ o (caps.flatMap bH) [(.s d,.av (.one (.d (.gen (rM f ss)))))]:=by
 refine fE hd hn rfl fun σ' ρ a w h hk=>?_;have hall:=hargs.is h hk;refine⟨.func (.func f) #[] (caps.map a.eval).toArray,by simp[execOp,ho,Instr.makeFunc],fun w' hag=>⟨_,rfl,?_⟩⟩;have key:∀ (ss:List (SA Dm)) (vs:List Value),dR (aT cx σ' ρ) ρ w ss vs->gK ss=[]->aBq w' ss vs:=by
  intro ss
  induction ss with
  | nil=>intro vs h _; cases vs with | nil=>trivial | cons=>exact h.elim
  | cons s ss ih =>
   intro vs h hp;cases vs with
   | nil=>exact h.elim
   | cons v vs =>
    simp only[gK,List.flatMap_cons,List.append_eq_nil_iff] at hp;exact⟨aAh h.1 hp.1 hag,ih vs h.2 hp.2⟩
 exact key ss _ hall hp
theorem aEn {L:Nat->Prop} {ρ:aR} {w:World}:∀ {ss:List (SA Dm)} {vs:List Value},(∀ w',Agree L w w'->aBq w' ss vs)->dR L ρ w ss vs
 | [],[],_=>trivial
 | [],_::_,h=>h w (Agree.refl _ _)
 | _::_,[],h=>h w (Agree.refl _ _)
 | s::ss,v::vs,h=>⟨yC fun w' hw=>(h w' hw).1,aEn fun w' hw=>(h w' hw).2⟩
theorem aHa {L:Nat->Prop} {ρ:aR} {w:World}:∀ {ss ss':List (SA Dm)} {vs vs':List Value},dR L ρ w ss vs->dR L ρ w ss' vs'->dR L ρ w (ss++ss') (vs++vs')
 | [],_,[],_,_,h=>h
 | _::_,_,_::_,_,h,h'=>⟨h.1,aHa h.2 h'⟩
 | [],_,_::_,_,h,_=>h.elim
 | _::_,_,[],_,h,_=>h.elim
theorem wO {f : FuncId} {fn : Func} {caps : List (SA Dm)} {args : Array Operand} {tys : Array TypeId} {sas : List (SA Dm)} {r : AV Dm} (hcon : aD P f (sas ++ caps) r) (hf : P.funcs[f]? = some fn) (hname : (fn.name == "runtime.NumGoroutine") = false) (hb : fn.body.isSome = true)
  (ho:o.op=.call ⟨.value (.tmp t),args,tys⟩) (hd:o.dst=some d) (hn:d<n) (ht:σ (.s t)=.av (.one (.d (.gen (rM f caps))))) (hargs:dY σ args.toList sas) (hr:r.ptrs=[]) (hfr:cx.fr=false) (hKP:bR (σ KP)=[]) :
  aN P cx n σ o (KP::.s t::args.toList.flatMap bH) [(.s d,.av r)]:=by
 intro σ' a w Q ⟨ρ,h⟩ h1 _ K hK;obtain⟨c,hc⟩:=Option.isSome_iff_exists.1 hb;have hs:=h.slt t _ ((h1 (.s t) (by simp)).trans ht);obtain⟨vs,hv,hat⟩:=hs w (Agree.refl _ _);have e1:a.eval (.tmp t)=.func (.func f) #[] vs.toArray:=hv;have hcaps:dR (aT cx σ' ρ) ρ w caps vs:=aEn fun w' hag=>by
  obtain⟨vs',hv',hat'⟩:=hs w' hag;rw[show a.tmps.getD t undef=_ from hv] at hv';injection hv' with q1 q2 q3;have:vs=vs':=by simpa using congrArg Array.toList q3
  rw[this]; exact hat'
 have hrun:(execOp a.eval o).run P w=.ok (.enter f (args.toList.map a.eval++vs).toArray) w:=by
  have h1 : fn.name ≠ "runtime.NumGoroutine" := by simpa using hname
  have h2:args.map a.eval++vs.toArray=(args.toList.map a.eval++vs).toArray:=Array.ext' (by simp);simp[execOp,ho,resolve,e1,Deferred.ofValue,invoke,callFunc,hf,h1,hc,h2]
 unfold Oper.wp;rw[hrun,Oper.upon_enter];refine(hcon (aT cx σ' ρ) ρ w _ h.lofLt (h.noInt hfr (by rw[h1 KP (by simp)]; exact hKP)) (cx.wf hfr w h.kept) (aHa (hargs.is h fun q hq=>h1 q (by simp[hq])) hcaps)).mono ?_;rintro e w' ⟨v,rfl,hbel,hv'⟩;show K (a.put o.dst v) w';rw[hd];exact hK _ _ ⟨ρ,h.put hbel hn hv' (by rw[hr]; intro b hb; cases hb)⟩
end
section
variable {P:Program} {cx:Cx Dm} {n:Nat} {σ:St Dm}
variable {o:Oper} {d t:Nat}
end
theorem aAt {s s' r r':SA Dm} (h1:∀ L ρ w v,s.is L ρ w v->r.is L ρ w v) (h2:∀ L ρ w v,s'.is L ρ w v->r'.is L ρ w v):∀ L ρ w v,(AV.tup [s,s']).is L ρ w v->(AV.tup [r,r']).is L ρ w v:=by
 rintro L ρ w v ⟨vs,rfl,h⟩
 match vs,h with
 | [u,u'],⟨k1,k2,_⟩=>exact⟨[u,u'],rfl,h1 _ _ _ _ k1,h2 _ _ _ _ k2,trivial⟩
end Vc
end Go.Proofs.YtbaihklbefhgdaaGreat
