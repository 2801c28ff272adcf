/-
  
-/
import Derived.Test.YtbaihklbefhgdaaGreatSC12
import Derived.Great.BuildSlice
import Derived.Great.FillDense
set_option linter.unusedVariables false
set_option linter.unusedSimpArgs false
set_option linter.unusedSectionVars false
namespace Go.Proofs.YtbaihklbefhgdaaGreat
open Go.RowKit
namespace Vc
section
variable {D:Type} [bO D] {P:Program} {cx:Cx D} {n:Nat} {σ:St D} {o:Oper}
theorem aH1 {d t r r' m by_:Nat} {y:Operand} {ty e:TypeId} {z:Value} {k:Option Nat} {sz:Nat} {s:SA D} {l xs:List (SA D)} {G:D} (hB:∀ b,¬ cx.Bw b) (hE:yD s k xs) (hG:Lst G k (l++xs)) (hG0:l++xs=[]->aGr G) (hlen:(l.length+xs.length)*by_<=140737488355328) (hle:l.length+xs.length<=4611686018427387904)
  (hu:P.underlying ty=some (.slice e)) (hinfo:(P.info? e).map (fun i=>(i.zero,i.size,i.bytes))=some (some z,sz,by_)) (hk:(SA.v z:SA D).kind=some k) (hsz:sz=k.getD 1) (hzp:(SA.v z:SA D).plain=true)
  (hxp:∀ x∈xs,x.plain=true) (hm:m=l.length) (ho:o.op=.call ⟨.builtin .append,#[.tmp t,y],#[ty,ty]⟩) (hd:o.dst=some d) (hn:d<n) (ht:σ (.s t)=.av (.one (.sl r m))) (hr:σ (.b r)=.row e k l) (hr':σ (.b r')=.no)
  (hy:opd σ y=.av (.one s)) (hnp:fK r (bR (σ KP))=false) (hkp:oW (σ KP)=true) (hrK:Nat.beq r 1000000=false) (hrK':Nat.beq r' 1000000=false) :
  aN P cx n σ o (KP::.s t::.b r::bH y) [(.s d,.av (.one (.d G))),(.b r',.dead),(.b r,.dead)]:=by
 intro σ' a w Q ⟨ρ,h⟩ h1 h2 K hK;have ht':=(h1 (.s t) (by simp)).trans ht;have hrr:=(h1 (.b r) (by simp)).trans hr;have hKP:=h1 KP (by simp);have hr1:=(h2 (.b r') (by simp[keys])).trans hr';have hy':=(cR (σ':=σ') (x:=y) fun q hq=>h1 q (by simp[hq])).trans hy;have hnp':r ∉ bR (σ' KP):=fun q=>by rw[hKP] at q; rw[eU.2 q] at hnp; cases hnp
 obtain⟨g,c,v,w',q1,q2,q3,q4,q5,q6,q7,q8,q9,q10⟩:=aCp (rty:=o.type) h hE hlen hle hu hinfo hk hsz ht' hm hrr hy';unfold Oper.wp;rw[aCo ho q1,Oper.upon_value,hd];have hrK1:r≠1000000:=fun e=>by subst e; cases hrK
 have hrK2:r'≠1000000:=fun e=>by subst e; cases hrK'
 obtain⟨p0,pb,pr⟩:=xR hkp;have hg:=h.grow (d:=d) (m:=m+xs.length) (l':=l++xs) (q:=σ' KP) hrr hr1 hn hrK1 hrK2 q2 q3 q4 q5 q6 q7 q8 q9 (fun hc=>by
   obtain⟨_,cs,sp,p1,p2,p3,p5⟩:=q10 hc;exact⟨cs,sp,p1,p2,p3,fun _=>p5 hnp' hxp hzp⟩) (by rw[List.flatMap_append,(h.row _ _ _ _ hrr).1.2.2,hE.2.1]; rfl) (by rw[hKP]; exact p0) (by rw[hKP]; exact pb) (by rw[hKP]; exact pr) (fun hne=>hne) (fun i _ _ hi=>hi)
 rw[aNl] at hg;obtain⟨ρ1,hc1⟩:=hg;obtain⟨σ1,hσ1⟩:∃ σ1,σ1=upd σ' [(.s d,.av (.one (.sl r' (m+xs.length)))),(.b r',.row e k (l++xs)),(.b r,.dead)]:=⟨_,rfl⟩
 rw[<- hσ1] at hc1;have hne0:r'≠r:=fun q=>by rw[q,hrr] at hr1; cases hr1
 have k2:σ1 (.b r')=.row e k (l++xs):=by rw[hσ1]; show (bif Key.beq (.b r') (.b r') then _ else _)=_; rw[iE]; rfl
 have k1:σ1 (.s d)=.av (.one (.sl r' (m+xs.length))):=by rw[hσ1]; show (bif Key.beq (.s d) (.s d) then _ else _)=_; rw[iE]; rfl
 have hv:∀ w'',Agree (aT cx (upd σ1 [(.s d,.av (.one (.d G))),(.b r',.dead)]) ρ1) w' w''->bO.dat G w'' v:=by
  intro w'' hag;obtain⟨a0,e1,e2⟩:=hc1.slt d _ k1;rw[Pu.aDy _ _ _ (by rw[h.size]; exact hn)] at e1;rw[e1,show m+xs.length=(l++xs).length by rw[List.length_append,hm]];by_cases hc:0<(ρ1 r').2
  ·rw[e2 hc];obtain⟨cs,sp,g1,g2⟩:=hc1.stays k2 hB hag hc;refine hG w'' _ 0 _ cs (hc1.row r' e k _ k2).1.1 (hc1.row r' e k _ k2).1.2.1 g2 fun j u hj=>?_;rw[g1.cell,Nat.zero_add,List.getElem?_append_left (List.getElem?_eq_some_iff.1 hj).1];exact hj
  ·have h0:=(hc1.row r' e k _ k2).1.1;have hl0:l++xs=[]:=List.eq_nil_of_length_eq_zero (by omega);rw[show (ρ1 r').2=0 by omega,hl0];exact hG0 hl0 w'' a0
 have hf:=hc1.froze (d:=d) (G:=G) (v:=v) (w':=w') k2 hn hrK2 (Below.refl _ _) hv;have ea:(a.put (some d) v).put (some d) v=a.put (some d) v:=by simp[Act.put]
 rw[ea] at hf;refine hK _ _ ⟨ρ1,?_⟩;have e3:upd σ1 [(.s d,.av (.one (.d G))),(.b r',.dead)]=upd σ' [(.s d,.av (.one (.d G))),(.b r',.dead),(.b r,.dead)]:=by
  funext q
  rw[hσ1];show (bif Key.beq (.s d) q then _ else bif Key.beq (.b r') q then _ else bif Key.beq (.s d) q then _ else bif Key.beq (.b r') q then _ else bif Key.beq (.b r) q then _ else _)=(bif Key.beq (.s d) q then _ else bif Key.beq (.b r') q then _ else bif Key.beq (.b r) q then _ else _);cases Key.beq (.s d) q<;>cases Key.beq (.b r') q<;>rfl
 rw[<- e3];exact hf
/-! Literals. -/
theorem aHg {L:Nat->Prop} {ρ:aR} {w:World} {k:Option Nat}:∀ {ss:List (SA D)} {vs:List Value},(∀ s∈ss,s.kind=some k)->dR L ρ w ss vs->bZ L ρ w (dB k ss) (vs.flatMap fun v=>v.cells.toList)/\∀ v∈vs,v.cells.size=k.getD 1
 | [],[],_,_=>⟨rfl,fun v hv=>by cases hv⟩
 | s::ss,v::vs,hk,h=>by
  obtain⟨cs,hcs⟩:=mG (hk s List.mem_cons_self) h.1;obtain⟨h1,h2⟩:=aHg (fun x hx=>hk x (List.mem_cons_of_mem _ hx)) h.2;refine⟨⟨cs,_,v,by rw[List.flatMap_cons,hcs.cells],hcs,h.1,h1⟩,fun u hu=>?_⟩;rcases List.mem_cons.1 hu with e | e
  ·rw[e,hcs.cells]; simpa using hcs.length
  ·exact h2 u e
theorem dY.same {σ':St D}:∀ {xs:List Operand} {ss:List (SA D)},dY σ xs ss->(∀ k∈xs.flatMap bH,σ' k=σ k)->dY σ' xs ss
 | [],[],_,_=>trivial
 | x::xs,s::ss,⟨⟨s0,q1,q2⟩,q3⟩,h=>⟨⟨s0,(cR fun k hk'=>h k (by simp only[List.flatMap_cons,List.mem_append]; exact .inl hk')).trans q1,q2⟩,dY.same q3 fun k hk'=>h k (by simp only[List.flatMap_cons,List.mem_append]; exact .inr hk')⟩
theorem aE7 {ρ:aR} {a:Act} {w:World} {ty e:TypeId} {z:Value} {sz:Nat} {k:Option Nat} {xs:List Operand} {ss:List (SA D)} (h:Conc cx n ρ σ a w) (hu:P.underlying ty=some (.slice e)) (hsz:(P.info? e).map (fun i=>(i.size,i.zero))=some (sz,some z)) (hs:sz=k.getD 1) (hs0:Nat.blt 0 sz=true) (hsm:Nat.ble (ss.length*sz) 1000=true)
  (hk:∀ s∈ss,s.kind=some k) (ho:o.op=.buildSlice ty ss.length ((xs.zipIdx 0).map fun p=>(p.2,p.1)).toArray) (hargs:dY σ xs ss) :
  ∃ cs:List Value,(execOp a.eval o).run P w=.ok (.value (.slice (some ⟨w.heap.size,0,none⟩) ss.length ss.length)) (w.alloc (.cells cs.toArray e))/\bZ (aT cx σ ρ) ρ w (dB k ss) cs:=by
 have hs0:0<sz:=by rwa[Nat.blt_eq] at hs0
 have hsm:ss.length*sz<=1000:=Nat.le_of_ble_eq_true hsm;have hall:=hargs.is h fun _ _=>rfl;have hlen:=yW hall;obtain⟨hc,hcs⟩:=aHg hk hall;refine⟨_,?_,hc⟩;cases hie:P.info? e with
 | none=>rw[hie] at hsz; cases hsz
 | some ie =>
  rw[hie] at hsz;simp only[Option.map_some,Option.some.injEq,Prod.mk.injEq] at hsz;obtain⟨hs1,hs2⟩:=hsz;have hxl:xs.length=ss.length:=by simpa using hlen
  by_cases hz:ss=[]
  ·subst hz;obtain rfl:xs=[]:=List.eq_nil_of_length_eq_zero hxl;simp only[execOp,ho,Sem.run_bind];have e0:sizeOf e=sizeOf e:=rfl;simp[Instr.buildSlice,run_underlying hu,sizeOf,typeInfo,hie,Instr.fill,newRow];rw[show Array.range 0=#[] from by decide,Array.map_empty]
  ·have hpos:0<ss.length:=by cases ss with | nil=>exact absurd rfl hz | cons=>simp
   have hzip:(((xs.zipIdx 0).map fun p=>(p.2,p.1)).toArray.map fun (p:Nat × Operand)=>(p.1,a.eval p.2)).toList=(((xs.map a.eval).zipIdx 0).map fun x=>(x.2,x.1)):=by
    simp[List.zipIdx_map,Function.comp_def]
   have hrun:=run_buildSlice (P:=P) w ty e ss.length (((xs.zipIdx 0).map fun p=>(p.2,p.1)).toArray.map fun (p:Nat × Operand)=>(p.1,a.eval p.2)) _ ie z hu hie hs2 (by rw[hs1]; omega) (by rw[hs1]; exact Nat.mul_ne_zero (by omega) (by omega))
    (by rw[hzip,hs1]; exact Great.fill_whole hs0 (xs.map a.eval) _ (by rw[hs]; exact hcs) (by simp[hxl]))
   unfold execOp;simp only[ho,Sem.run_bind];rw[hrun];rfl
theorem aMi {d r:Nat} {ty e:TypeId} {z:Value} {sz:Nat} {k:Option Nat} {xs:List Operand} {ss:List (SA D)} (hu:P.underlying ty=some (.slice e)) (hsz:(P.info? e).map (fun i=>(i.size,i.zero))=some (sz,some z)) (hs:sz=k.getD 1) (hs0:Nat.blt 0 sz=true) (hsm:Nat.ble (ss.length*sz) 1000=true)
  (hk:∀ s∈ss,s.kind=some k) (hp:∀ s∈ss,s.plain=true) (hpt:ss.flatMap SA.ptrs=[]) (ho:o.op=.buildSlice ty ss.length ((xs.zipIdx 0).map fun p=>(p.2,p.1)).toArray) (hd:o.dst=some d) (hn:d<n) (hargs:dY σ xs ss) (hr:σ (.b r)=.no) (hrK:Nat.beq r 1000000=false) :
  aN P cx n σ o (xs.flatMap bH) [(.s d,.av (.one (.sl r ss.length))),(.b r,.row e k ss)]:=by
 intro σ' a w Q ⟨ρ,h⟩ h1 h2 K hK;have hargs':dY σ' xs ss:=hargs.same h1;obtain⟨cs,hrun,hc⟩:=aE7 h hu hsz hs hs0 hsm hk ho hargs';unfold Oper.wp;rw[hrun,Oper.upon_value,hd];refine hK _ _ (h.new (c:=ss.length) ((Below.refl _ _).alloc (Nat.le_refl _) _) hn ((h2 (.b r) (by simp[keys])).trans hr) (fun e=>by subst e; cases hrK) (by simp) (Nat.le_refl _) (fun ρ' hρ=>⟨some ⟨w.heap.size,0,none⟩,by rw[hρ],fun _=>by rw[hρ]⟩) (fun b hb=>by simpa[AV.ptrs,SA.ptrs] using hb)
   (fun T ch e=>by cases e) ?_ (by intro b hb; cases hb) (fun _ _ _ _ _ q=>q))
 intro T1 k1 l1 e;injection e with e1 e2 e3;subst e1; subst e2; subst e3;have hml:ss.length<=maxLen:=by
  have h0:0<sz:=by rwa[Nat.blt_eq] at hs0
  have h1:=Nat.le_of_ble_eq_true hsm;have h2:=Nat.le_mul_of_pos_right ss.length h0;unfold maxLen; omega
 refine⟨⟨Nat.le_refl _,hml,hpt⟩,fun _=>⟨cs,[],by rw[List.append_nil]; exact uN (heap_alloc_new w _),hc,by rw[List.append_nil,hc.length],fun _ q hq=>?_⟩⟩;rw[List.append_nil] at hq;refine hc.plain ?_ q hq;simp only[gV,dB,List.all_map,List.all_eq_true];exact fun x hx=>hp x hx
theorem fH {d:Nat} {ty e:TypeId} {z:Value} {sz:Nat} {k:Option Nat} {xs:List Operand} {ss:List (SA D)} {G:D} (hG:Lst G k ss) (hu:P.underlying ty=some (.slice e)) (hsz:(P.info? e).map (fun i=>(i.size,i.zero))=some (sz,some z)) (hs:sz=k.getD 1) (hs0:Nat.blt 0 sz=true) (hsm:Nat.ble (ss.length*sz) 1000=true)
  (hk:∀ s∈ss,s.kind=some k) (hpt:ss.flatMap SA.ptrs=[]) (ho:o.op=.buildSlice ty ss.length ((xs.zipIdx 0).map fun p=>(p.2,p.1)).toArray) (hd:o.dst=some d) (hn:d<n) (hargs:dY σ xs ss) :
  aN P cx n σ o (xs.flatMap bH) [(.s d,.av (.one (.d G)))]:=by
 intro σ' a w Q ⟨ρ,h⟩ h1 h2 K hK;have hargs':dY σ' xs ss:=hargs.same h1;obtain⟨cs,hrun,hc⟩:=aE7 h hu hsz hs hs0 hsm hk ho hargs';unfold Oper.wp;rw[hrun,Oper.upon_value,hd];refine hK _ _ ⟨ρ,h.put ((Below.refl _ _).alloc (Nat.le_refl _) _) hn ?_ (by intro b hb; cases hb)⟩;intro w' hag;have hb:w'.heap[w.heap.size]?=some (.cells cs.toArray e (0,0)):=by
  rw[hag.2 w.heap.size (by simp) (fun hL=>by have:=h.lofLt _ hL; omega)];exact heap_alloc_new w _
 have hml:ss.length<=maxLen:=by
  have h0:0<sz:=by rwa[Nat.blt_eq] at hs0
  have h1:=Nat.le_of_ble_eq_true hsm;have h2:=Nat.le_mul_of_pos_right ss.length h0;unfold maxLen; omega
 refine hG w' _ 0 _ cs (Nat.le_refl _) hml (hc.ats hpt ((Agree.below ((Below.refl _ _).alloc (Nat.le_refl _) _)).trans hag)) fun j u hj=>?_;rw[cell_of_row w' _ _ _ e _ hb,List.getElem?_toArray,Nat.zero_add];exact hj
theorem aP6 (a:Act) (t:Nat):a.put (some t) (a.tmps.getD t undef)=a:=by
 cases a with
 | mk tmps defers =>
  simp only[Act.put];congr 1;apply Array.ext (by simp);intro i h1 h2;rw[Array.getElem_setIfInBounds];split
  ·rename_i h3; subst h3; rw[Array.getD_eq_getD_getElem?,Array.getElem?_eq_getElem h2]; rfl
  ·rfl
theorem oD {c:Code} {K:Exit->Sg D->Prop} {l0:Sg D} (t r:Nat) (T:TypeId) (k:Option Nat) (ht:aF .no l0 (.s t)=.av (.one (.v (.slice none 0 0)))) (hr:aF .no l0 (.b r)=.no) (ht':Nat.blt t n=true) (hrK:Nat.beq r 1000000=false)
  (h:CV P cx n c ((.s t,.av (.one (.sl r 0)))::(.b r,.row T k [])::l0) K):CV P cx n c l0 K:=by
 have ht'':t<n:=by rwa[Nat.blt_eq] at ht'
 refine⟨fun a w ⟨ρ,hC⟩=>h.run a w ?_⟩;have hv:a.tmps.getD t undef=.slice none 0 0:=hC.slt t _ ht;have:=hC.new (d:=t) (i:=r) (g:=w.heap.size) (c:=0) (av:=.one (.sl r 0)) (x:=.row T k []) (v:=a.tmps.getD t undef) (Below.refl _ _) ht'' hr (fun e=>by subst e; cases hrK) (by simp) (Nat.le_refl _) (fun ρ' hρ=>⟨none,by rw[hv,hρ],fun q=>by rw[hρ] at q; cases q⟩) (fun b hb=>by simpa[AV.ptrs,SA.ptrs] using hb)
  (fun T ch e=>by cases e) (fun T1 k1 l1 e=>by injection e with e1 e2 e3; subst e3; exact⟨⟨Nat.le_refl _,by decide,rfl⟩,fun q=>absurd q (by omega)⟩) (by intro b hb; cases hb) (fun _ _ _ _ _ q=>q)
 rw[aP6,fZ] at this;exact this
def gQ (x:Option Nat):Option Value:=x.map fun (n:Nat)=>Value.int .i64 (n:Int)
theorem aMd (w:World) {t e:TypeId} {q:Nat} (hu:P.underlying t=some (.slice e)) (hq:(P.info? e).map (·.size)=some q) (a:Option Addr) (len cap:Nat) (lo hi mx:Option Nat) (h1:lo.getD 0<=hi.getD len) (h2:hi.getD len<=mx.getD cap) (h3:mx.getD cap<=cap) (h4:hi=none->mx=none) :
  (Instr.sliceAt t (.slice a len cap) (gQ lo) (gQ hi) (gQ mx)).run P w=.ok (.slice (if mx.getD cap=lo.getD 0 then a else a.map (·.add (lo.getD 0*q))) (hi.getD len-lo.getD 0) (mx.getD cap-lo.getD 0)) w:=by
 have e0:(Instr.sliceAt t (.slice a len cap) (gQ lo) (gQ hi) (gQ mx)).run P w=(Instr.slice t (.slice a len cap) (gQ lo) (gQ hi) (gQ mx)).run P w:=by
  simp[Instr.sliceAt,run_underlying hu]
 rw[e0];have key:∀ (n y:Nat) c,n<=y->(Instr.sliceBound (.int .i64 (n:Int)) y c).run P w=.ok n w:=by
  intro n y c hny;have:((n:Nat):Int)<=(y:Int):=by omega
  simp[Instr.sliceBound,asIntOf,this]
 have hb:(Instr.sliceBounds true len cap (gQ lo) (gQ hi) (gQ mx)).run P w=.ok (lo.getD 0,hi.getD len,mx.getD cap) w:=by
  cases lo with
  | none =>
   cases hi with
   | none =>
    obtain rfl:=h4 rfl;simp[Instr.sliceBounds,gQ]
   | some hi =>
    cases mx with
    | none=>simp only[Option.getD_some,Option.getD_none] at h1 h2 h3; simp[Instr.sliceBounds,gQ,key _ _ _ h2]
    | some mx=>simp only[Option.getD_some,Option.getD_none] at h1 h2 h3; simp[Instr.sliceBounds,gQ,key _ _ _ h2,key _ _ _ h3]
  | some lo =>
   cases hi with
   | none =>
    obtain rfl:=h4 rfl;simp only[Option.getD_some,Option.getD_none] at h1 h2 h3;simp[Instr.sliceBounds,gQ,key _ _ _ h1]
   | some hi =>
    cases mx with
    | none=>simp only[Option.getD_some,Option.getD_none] at h1 h2 h3; simp[Instr.sliceBounds,gQ,key _ _ _ h2,key _ _ _ h1]
    | some mx=>simp only[Option.getD_some,Option.getD_none] at h1 h2 h3; simp[Instr.sliceBounds,gQ,key _ _ _ h2,key _ _ _ h3,key _ _ _ h1]
 simp only[Instr.slice,Sem.run_bind,run_underlying hu,Result.andThen_ok,hb,aMc hq,Sem.run_pure]
theorem aMj {d t r m m':Nat} {j:Operand} {ty e e':TypeId} {k:Option Nat} {l:List (SA D)} (hm:m'<=l.length) (hu:P.underlying ty=some (.slice e')) (hsz:∃ q,(P.info? e').map (·.size)=some q) (ho:o.op=.slice ty (.tmp t) none (some j) none) (hd:o.dst=some d) (hn:d<n)
  (ht:σ (.s t)=.av (.one (.sl r m))) (hr:σ (.b r)=.row e k l) (hj:opd σ j=.av (.one (.v (.int .i64 (m':Int))))) (hrK:Nat.beq r 1000000=false) :
  aN P cx n σ o (.s t::.b r::bH j) [(.s d,.av (.one (.sl r m'))),(.b r,.row e k (l.take m'))]:=by
 intro σ' a w Q ⟨ρ,h⟩ h1 h2 K hK;have ht':=(h1 (.s t) (by simp)).trans ht;have hrr:=(h1 (.b r) (by simp)).trans hr;have e2:a.eval j=.int .i64 (m':Int):=h.opd ((cR fun q hq=>h1 q (by simp[hq])).trans hj);obtain⟨a0,e1,e3⟩:=h.slt t _ ht';have e1:a.eval (.tmp t)=.slice a0 m (ρ r).2:=e1;have hr0:=h.row r e k l hrr;obtain⟨q,hq⟩:=hsz;have hadd:a0.map (fun x=>x.add (0*q))=a0:=by cases a0<;>simp[Addr.add]
 have hrun:(execOp a.eval o).run P w=.ok (.value (.slice a0 m' (ρ r).2)) w:=by
  have hcut:=aMd (P:=P) w hu hq a0 m (ρ r).2 none (some m') none (Nat.zero_le _) (by have:=hr0.1.1; simp only[Option.getD_some,Option.getD_none]; omega) (Nat.le_refl _) (fun e=>by cases e);simp only[gQ,Option.map_none,Option.map_some,Option.getD_none,Option.getD_some,Nat.sub_zero,hadd] at hcut;have ei:(if (ρ r).2=0 then a0 else a0)=a0:=by split<;>rfl
  rw[ei] at hcut;simp only[execOp,ho,e1,e2,Sem.run_bind,Option.map_none,Option.map_some,hcut,Result.andThen_ok,Sem.run_pure]
 have hlen:(l.take m').length=m':=by rw[List.length_take]; omega
 unfold Oper.wp;rw[hrun,Oper.upon_value,hd];have hcut:Conc cx n ρ (upd σ' [(.b r,.row e k (l.take m'))]) a w:=by
  by_cases hc:0<(ρ r).2
  ·refine h.sto ((jI hrr).2 hc) (by simp) ((jI kM).2 hc) (fun e=>by subst e; cases hrK) rfl rfl rfl rfl (fun _ _=>rfl) (fun T ch e=>by cases e) ?_ ?_
   ·intro T1 k1 l1 e;injection e with e1 e2 e3;subst e1; subst e2; subst e3;obtain⟨cs,sp,q1,q2,q3,q5⟩:=hr0.2 hc;refine⟨⟨by rw[hlen]; have:=hr0.1.1; omega,hr0.1.2.1,List.flatMap_eq_nil_iff.2 fun s hs=>List.flatMap_eq_nil_iff.1 hr0.1.2.2 s (List.mem_of_mem_take hs)⟩,fun _=>⟨cs.take (m'*k.getD 1),cs.drop (m'*k.getD 1)++sp,by rw[<- List.append_assoc,List.take_append_drop]; exact q1,q2.take m',by rw[<- List.append_assoc,List.take_append_drop]; exact q3,fun hn x hx=>q5 hn x (by rw[<- List.append_assoc,List.take_append_drop] at hx; exact hx)⟩⟩
   ·intro b hb; cases hb
  ·have hl0:l=[]:=List.eq_nil_of_length_eq_zero (by have:=hr0.1.1; omega);subst hl0;have:upd σ' [(.b r,.row e k (([]:List (SA D)).take m'))]=σ':=by
    funext q
    by_cases hq:q=.b r
    ·subst hq; rw[kM,hrr]; simp
    ·exact mM hq
   rw[this];exact h
 have hput:=hcut.put (av:=.one (.sl r m')) (v:=.slice a0 m' (ρ r).2) (d:=d) (Below.refl _ _) hn ⟨a0,rfl,e3⟩ (fun b hb=>by
  obtain rfl:b=r:=by simpa[AV.ptrs,SA.ptrs] using hb
  rw[kM]; simp)
 have ef:upd (upd σ' [(.b r,.row e k (l.take m'))]) [(.s d,.av (.one (.sl r m')))]=upd σ' [(.s d,.av (.one (.sl r m'))),(.b r,.row e k (l.take m'))]:=by
  funext q
  rfl
 rw[ef] at hput;exact hK _ _ ⟨ρ,hput⟩
end
section
variable {X:Type} {x0:X} {C:(Key->X)->Act->World->Prop} {P:Program} {ops:Array Oper} {draw:Bool} {o:Oper} {rest:List Oper} {done:List (Stp X)} {l:List (Key × X)} {K:List (Key × X)->Prop} {rd:List Key} {q r s u:Key} {x y z v:X}
theorem gI (h:iM C P ops (aF x0 l) o ⟨rd,[(q,x),(r,y),(s,z)]⟩) (k:RV x0 C P ops draw rest (⟨rd,[(q,x),(r,y),(s,z)]⟩::done) ((q,x)::(r,y)::(s,z)::l) K):RV x0 C P ops draw (o::rest) done l K:=⟨_,h,k⟩
theorem aWp (h:iM C P ops (aF x0 l) o ⟨rd,[(q,x),(r,y),(s,z),(u,v)]⟩) (k:RV x0 C P ops draw rest (⟨rd,[(q,x),(r,y),(s,z),(u,v)]⟩::done) ((q,x)::(r,y)::(s,z)::(u,v)::l) K):RV x0 C P ops draw (o::rest) done l K:=⟨_,h,k⟩
end
section
variable {D:Type} [bO D] {P:Program} {cx:Cx D} {n:Nat} {σ:St D} {o:Oper}
theorem Conc.kp {ρ:aR} {a:Act} {w:World} {q:XV D} (h:Conc cx n ρ σ a w) (h0:oW (σ KP)=true) (hq:oW q=true) (hno:σ KP≠.no->q≠.no) (hnp:∀ i T k l,σ (.b i)=.row T k l->i ∉ bR q->i ∉ bR (σ KP)) (hnb:∀ i T ch,σ (.b i)=.blk T ch->i ∉ bR q->i ∉ bR (σ KP)\/gV ch=true):Conc cx n ρ (upd σ [(KP,q)]) a w:=by
 obtain⟨q0,qb,qr⟩:=xR hq;obtain⟨_,sb,sr⟩:=xR h0;have k1:upd σ [(KP,q)] KP=q:=kM;have k3:∀ k,k≠KP->upd σ [(KP,q)] k=σ k:=fun k hk=>mM hk;obtain⟨σ',hσ⟩:∃ σ',σ'=upd σ [(KP,q)]:=⟨_,rfl⟩
 rw[<- hσ] at k1 k3 |-;have hlive:∀ j,live σ' ρ j ↔ live σ ρ j:=by
  intro j;by_cases e:j=1000000
  ·subst e;constructor
   ·intro hl;rcases gH hl with ⟨T,ch,e⟩ | ⟨T,k,l,e,_⟩
    ·exact absurd (k1.symm.trans e) (qb T ch)
    ·exact absurd (k1.symm.trans e) (qr T k l)
   ·intro hl;rcases gH hl with ⟨T,ch,e⟩ | ⟨T,k,l,e,_⟩
    ·exact absurd e (sb T ch)
    ·exact absurd e (sr T k l)
  ·exact fY (k3 _ (by simpa[KP] using e)) rfl
 have hL:aT cx σ' ρ=aT cx σ ρ:=by unfold aT; simp only[hlive]
 refine⟨h.size,h.defers,h.kept,fun i hi=>h.mine i ((hlive i).1 hi),fun i T ch hi=>?_,fun i T k l hi=>?_,fun i j hi hj=>h.inj i j ((hlive i).1 hi) ((hlive j).1 hj),fun t av ht=>?_,fun k b hb=>?_,fun i T ch hi=>?_⟩
 ·rw[hL];by_cases e:Key.b i=KP
  ·rw[e,k1] at hi; exact absurd hi (qb _ _)
  ·rw[k3 _ e] at hi; exact h.blk i T ch hi
 ·rw[hL,k1];by_cases e:Key.b i=KP
  ·rw[e,k1] at hi; exact absurd hi (qr _ _ _)
  ·rw[k3 _ e] at hi;exact(h.row i T k l hi).go (Goes.refl _ _) rfl (fun _=>rfl) (hnp i T k l hi)
 ·rw[hL];rw[k3 _ (by simp[KP])] at ht;exact h.slt t av ht
 ·have hb':σ (.b b)≠.no:=by
   by_cases e:k=KP
   ·subst e; rw[k1,q0] at hb; cases hb
   ·rw[k3 _ e] at hb; exact h.own k b hb
  by_cases e:Key.b b=KP
  ·rw[e,k1]; rw[e] at hb'; exact hno hb'
  ·rw[k3 _ e]; exact hb'
 ·intro hq';rw[k1] at hq';by_cases e:Key.b i=KP
  ·rw[e,k1] at hi; exact absurd hi (qb _ _)
  ·rw[k3 _ e] at hi;rcases hnb i T ch hi hq' with q | q
   ·exact h.pln i T ch hi q
   ·exact q
theorem aRp {d t r r' m by_:Nat} {y:Operand} {ty e:TypeId} {z:Value} {k:Option Nat} {sz:Nat} {s:SA D} {l xs:List (SA D)} (hE:yD s k xs) (hlen:(l.length+xs.length)*by_<=140737488355328) (hle:l.length+xs.length<=4611686018427387904)
  (hu:P.underlying ty=some (.slice e)) (hinfo:(P.info? e).map (fun i=>(i.zero,i.size,i.bytes))=some (some z,sz,by_)) (hk:(SA.v z:SA D).kind=some k) (hsz:sz=k.getD 1)
  (hm:m=l.length) (ho:o.op=.call ⟨.builtin .append,#[.tmp t,y],#[ty,ty]⟩) (hd:o.dst=some d) (hn:d<n) (ht:σ (.s t)=.av (.one (.sl r m))) (hr:σ (.b r)=.row e k l) (hr':σ (.b r')=.no)
  (hy:opd σ y=.av (.one s)) (hkp:oW (σ KP)=true) (hrK:Nat.beq r 1000000=false) (hrK':Nat.beq r' 1000000=false) :
  aN P cx n σ o (KP::.s t::.b r::bH y) [(.s d,.av (.one (.sl r' (m+xs.length)))),(.b r',.row e k (l++xs)),(.b r,.dead),(KP,.np (r'::bR (σ KP)))]:=by
 intro σ' a w Q ⟨ρ,h⟩ h1 h2 K hK;have ht':=(h1 (.s t) (by simp)).trans ht;have hrr:=(h1 (.b r) (by simp)).trans hr;have hKP:=h1 KP (by simp);have hr1:=(h2 (.b r') (by simp[keys])).trans hr';have hy':=(cR (σ':=σ') (x:=y) fun q hq=>h1 q (by simp[hq])).trans hy;obtain⟨g,c,v,w',q1,q2,q3,q4,q5,q6,q7,q8,q9,q10⟩:=aCp (rty:=o.type) h hE hlen hle hu hinfo hk hsz ht' hm hrr hy';unfold Oper.wp;rw[aCo ho q1,Oper.upon_value,hd];have hrK1:r≠1000000:=fun e=>by subst e; cases hrK
 have hrK2:r'≠1000000:=fun e=>by subst e; cases hrK'
 exact hK _ _ (h.grow (d:=d) (m:=m+xs.length) (l':=l++xs) (q:=.np (r'::bR (σ KP))) hrr hr1 hn hrK1 hrK2 q2 q3 q4 q5 q6 q7 q8 q9 (fun hc=>by
   obtain⟨_,cs,sp,p1,p2,p3,p5⟩:=q10 hc;exact⟨cs,sp,p1,p2,p3,fun q=>absurd (List.mem_cons_self) q⟩) (by rw[List.flatMap_append,(h.row _ _ _ _ hrr).1.2.2,hE.2.1]; rfl) rfl (fun _ _ e=>by cases e) (fun _ _ _ e=>by cases e) (fun _=>by simp) (fun i _ _ hi q=>hi (by rw[hKP] at q; exact List.mem_cons_of_mem _ q)))
theorem gG {f:Nat->Nat} {x:AV D} (hp:x.ptrs=[]:=by exact rfl):(XV.av x).leR f (.av x):=aAg hp fun _ _ _ _ h=>h
def isRow:XV D->Bool
 | .row _ _ _=>true
 | .blk _ ch => !gV ch
 | _=>false
theorem CV.kp {c:Code} {K:Exit->Sg D->Prop} {l0:Sg D} (q:List Nat) (h0:oW (aF .no l0 KP)=true) (hq:((bR (aF .no l0 KP)).all fun i=>fK i q || !isRow (aF .no l0 (.b i)))=true) (h:CV P cx n c ((KP,.np q)::l0) K):CV P cx n c l0 K:=by
 refine⟨fun a w ⟨ρ,hC⟩=>h.run a w ⟨ρ,?_⟩⟩;have:=hC.kp (q:=.np q) h0 rfl (fun _=>by simp) (fun i T k l hi hn hm=>by
  have:=List.all_eq_true.1 hq i hm;rw[Bool.or_eq_true,eU,hi] at this;rcases this with t | t
  ·exact hn t
  ·cases t) (fun i T ch hi hn=>by
  by_cases hm:i∈bR (aF .no l0 KP)
  ·have:=List.all_eq_true.1 hq i hm;rw[Bool.or_eq_true,eU,hi] at this;rcases this with t | t
   ·exact absurd t hn
   ·exact .inr (by simpa[isRow] using t)
  ·exact .inl hm)
 rw[fZ] at this;exact this
end
end Vc
end Go.Proofs.YtbaihklbefhgdaaGreat
