/-
  
-/
import Derived.Test.YtjmbkipbmbnhjaaGreatSQ7
import Derived.Deep.LoopGhost
set_option linter.unusedVariables false
set_option linter.unusedSimpArgs false
set_option linter.unusedSectionVars false
namespace Go.Proofs.YtjmbkipbmbnhjaaGreat
open Go.RowKit
namespace Vc
section
variable {D:Type} [bR D] {P:Program} {cx:Cx D} {n:Nat}
structure CV (P:Program) (cx:Cx D) (n:Nat) (c:Code) (l:Sg D) (K:Exit->Sg D->Prop):Prop where
 run:∀ a w,CC cx n (aH .no l) a w->c.wp P (fun e a' w'=>∃ l',CC cx n (aH .no l') a' w'/\K e l') a w
def aFr (next:Sg D->Prop) (K:Exit->Sg D->Prop):Exit->Sg D->Prop
 | .normal,l=>next l
 | e,l=>K e l
def aBq (id:Nat) (K:Exit->Sg D->Prop):Exit->Sg D->Prop
 | .exit id',l=>bif Nat.beq id' id then K .normal l else K (.exit id') l
 | e,l=>K e l
variable {l:Sg D} {K:Exit->Sg D->Prop}
theorem CV.seq {x y:Code} (h:CV P cx n x l (aFr (fun l'=>CV P cx n y l' K) K)):CV P cx n (.seq x y) l K:=by
 refine⟨fun a w hC=>?_⟩;refine wp_seq (wp_mono (h.run a w hC) ?_);rintro e a' w' ⟨l',h1,h2⟩;cases e with
 | normal=>exact h2.run a' w' h1
 | exit id=>exact⟨l',h1,h2⟩
 | goto m=>exact⟨l',h1,h2⟩
 | ret=>exact⟨l',h1,h2⟩
 | panic c=>exact⟨l',h1,h2⟩
 | outgrown=>exact⟨l',h1,h2⟩
theorem CV.skip (h:K .normal l):CV P cx n .skip l K:=⟨fun _ _ hC=>wp_skip ⟨l,hC,h⟩⟩
theorem CV.ret (h:K .ret l):CV P cx n .ret l K:=⟨fun _ _ hC=>wp_ret ⟨l,hC,h⟩⟩
theorem CV.exit {id:Nat} (h:K (.exit id) l):CV P cx n (.exit id) l K:=⟨fun _ _ hC=>wp_exit ⟨l,hC,h⟩⟩
theorem CV.block {id:Nat} {c:Code} (h:CV P cx n c l (aBq id K)):CV P cx n (.block id c) l K:=by
 refine⟨fun a w hC=>?_⟩;refine wp_block (wp_mono (h.run a w hC) ?_);rintro e a' w' ⟨l',h1,h2⟩;cases e with
 | exit id' =>
  unfold aBq at h2;unfold Exit.inBlock;simp only at h2 |-;split
  ·rename_i e; subst e; rw[show Nat.beq id' id'=true from Nat.beq_refl id',cond_true] at h2; exact⟨l',h1,h2⟩
  ·rename_i e;have e2:Nat.beq id' id=false:=by
    cases e2:Nat.beq id' id with
    | false=>rfl
    | true=>exact absurd (Nat.eq_of_beq_eq_true e2) e
   rw[e2,cond_false] at h2; exact⟨l',h1,h2⟩
 | normal=>exact⟨l',h1,h2⟩
 | goto m=>exact⟨l',h1,h2⟩
 | ret=>exact⟨l',h1,h2⟩
 | panic c=>exact⟨l',h1,h2⟩
 | outgrown=>exact⟨l',h1,h2⟩
theorem CV.cond {c:Operand} {x y:Code} {b:Bool} (hc:opd (aH .no l) c=.av (.one (.v (.bool b)))) (ht:b=true->CV P cx n x l K) (hf:b=false->CV P cx n y l K):CV P cx n (.cond c x y) l K:=by
 refine⟨fun a w hC=>?_⟩;obtain⟨ρ,h⟩:=id hC;exact wp_cond_split (h.opd hc) (fun e=>(ht e).run a w hC) (fun e=>(hf e).run a w hC)
theorem CV.yes {c:Operand} {x y:Code} (hc:opd (aH .no l) c=.av (.one (.v (.bool true)))) (h:CV P cx n x l K):CV P cx n (.cond c x y) l K:=CV.cond hc (fun _=>h) (fun e=>nomatch e)
theorem CV.no {c:Operand} {x y:Code} (hc:opd (aH .no l) c=.av (.one (.v (.bool false)))) (h:CV P cx n y l K):CV P cx n (.cond c x y) l K:=CV.cond hc (fun e=>nomatch e) (fun _=>h)
theorem CV.region {id:Nat} {ops:List Oper} {draw:Bool} (hm:P.follows .mixedOrders=true) (hb:draw=true->Pu.jB .any ops.toArray=true) (h:RV .no (CC cx n) P ops.toArray draw ops [] l (K .normal)):CV P cx n (.region id ops.toArray draw) l K:=by
 refine⟨fun a w hC=>?_⟩;refine RV.wp (x0:=.no) (C:=CC cx n) (K:=K .normal) (fun a w h=>h.drew) hm hb ?_ hC fun l' _ _ hK hC'=>⟨l',hC',hK⟩
 simpa using h
theorem RV.bool {ops:Array Oper} {draw:Bool} {rest:List Oper} {done:List (Stp (XV D))} {K:Sg D->Prop} {t:Nat} {b:Bool} (ht:b=true->RV .no (CC cx n) P ops draw rest done ((.s t,.av (.one (.v (.bool true))))::l) K)
  (hf:b=false->RV .no (CC cx n) P ops draw rest done ((.s t,.av (.one (.v (.bool false))))::l) K):RV .no (CC cx n) P ops draw rest done ((.s t,.av (.one (.v (.bool b))))::l) K:=by
 cases b
 ·exact hf rfl
 ·exact ht rfl
def bQ (l l':Sg D):Prop:=∀ cx n a w,CC cx n (aH .no l) a w->CC cx n (aH .no l') a w
theorem CV.sub {l':Sg D} {c:Code} (hs:bQ l l') (h:CV P cx n c l' K):CV P cx n c l K:=⟨fun a w hC=>h.run a w (hs _ _ _ _ hC)⟩
theorem CV.loop {X:Type} (I:X->Sg D) (μ:X->Nat) (x0:X) {c:Code} (h0:bQ l (I x0)) (round:∀ x,CV P cx n c (I x) (aFr (fun l'=>∃ x',bQ l' (I x') /\ μ x' < μ x) K)):CV P cx n (.loop c) l K:=by
 refine⟨fun a w hC=>?_⟩;refine wp_loop_ghost (fun k a w=>∃ x,μ x=k/\CC cx n (aH .no (I x)) a w) (μ x0) ⟨x0,rfl,h0 _ _ _ _ hC⟩ ?_;rintro k a w ⟨x,rfl,hx⟩;refine wp_mono ((round x).run a w hx) ?_;rintro e a' w' ⟨l',h1,h2⟩;cases e with
 | normal =>
  obtain⟨x',h3,h4⟩:=h2;exact⟨μ x',h4,x',rfl,h3 _ _ _ _ h1⟩
 | exit id=>exact⟨l',h1,h2⟩
 | goto m=>exact⟨l',h1,h2⟩
 | ret=>exact⟨l',h1,h2⟩
 | panic c=>exact⟨l',h1,h2⟩
 | outgrown=>exact⟨l',h1,h2⟩
def XV.leR (f:Nat->Nat):XV D->XV D->Prop
 | _,.no=>True
 | .av x,.av y=>∀ L ρ w v,x.is L ρ w v->y.is L (fun i=>ρ (f i)) w v
 | .blk T ch,.blk T' ch'=>T=T'/\∀ L ρ w cs,cE L ρ w ch cs->cE L (fun i=>ρ (f i)) w ch' cs
 | .row T k l,.row T' k' l'=>T=T'/\k=k'/\l.length=l'.length/\(l.flatMap SA.ptrs=[]->l'.flatMap SA.ptrs=[])/\∀ L ρ w cs,cE L ρ w (cY k l) cs->cE L ρ w (cY k l') cs
 | _,.dead=>True
 | _,.np _=>True
 | _,_=>False
abbrev XV.le (x y:XV D):Prop:=XV.leR id x y
theorem aF (x:XV D):x.le x:=by
 cases x with
 | no=>trivial
 | av x=>exact fun _ _ _ _ h=>h
 | blk T ch=>exact⟨rfl,fun _ _ _ _ h=>h⟩
 | row T k l=>exact⟨rfl,rfl,rfl,fun h=>h,fun _ _ _ _ h=>h⟩
 | dead=>trivial
 | np l=>trivial
theorem zU {x y:XV D} (h:x=y):x.le y:=h ▸ aF x
theorem pZ {f:Nat->Nat} {b c m m':Nat} (h:f c=b) (hm:m=m'):(XV.av (.one (.sl b m)):XV D).leR f (.av (.one (.sl c m'))):=by
 subst h; subst hm; exact fun _ _ _ _ h=>h
theorem gS {T:TypeId} {k:Option Nat} {l l':List (SA D)} {f:Nat->Nat} (h:l=l'):(XV.row T k l:XV D).leR f (.row T k l'):=by
 subst h;exact⟨rfl,rfl,rfl,fun h=>h,fun _ _ _ _ h=>h⟩
theorem aKq {x y:AV D} {f:Nat->Nat} (hp:y.ptrs=[]) (h:∀ L ρ w v,x.is L ρ w v->y.is L ρ w v):(XV.av x).leR f (.av y) :=
 fun L ρ w v hv=>(h L ρ w v hv).go (Goes.refl _ _) (by rw[hp]; intro b hb; cases hb)
def aYc:XV D->Bool
 | .no=>false
 | _=>true
def ownB (l:Sg D):Bool:=l.all fun p=>p.2.ptrs.all fun b=>aYc (aH .no l (.b b))
def fG (i:Nat):List Nat->Bool
 | []=>false
 | j::r=>Nat.beq j i||fG i r
theorem eM {i:Nat} {l:List Nat}:fG i l=true ↔ i∈l:=by
 induction l with
 | nil=>simp[fG]
 | cons j r ih=>simp only[fG,Bool.or_eq_true,ih,Nat.beq_eq,List.mem_cons]; constructor<;>rintro(h | h)<;>simp[h]
def aNy (l:Sg D):Bool:=l.all fun p=>match p with
 | (.b i,.blk _ ch)=>gN ch||fG i (bW (aH .no l KP))
 | _=>true
def xU (f:Nat->Nat):Key->Key
 | .s t=>.s t
 | .b i=>.b (f i)
def xN (f:Nat->Nat) (l:Sg D):Sg D->Prop
 | []=>True
 | (k,x)::r=>(aH .no l (xU f k)).leR f x/\xN f l r
abbrev aX4 (l l':Sg D):Prop:=xN id l l'
def qR:Sg D->List Nat
 | []=>[]
 | (.b i,.blk _ _)::r=>i::qR r
 | (.b i,.row _ _ _)::r=>i::qR r
 | _::r=>qR r
def aN0 (f:Nat->Nat) (l:Sg D):Bool:=(qR l).all fun i=>(qR l).all fun j => !(Nat.beq (f i) (f j))||Nat.beq i j
def npB (f:Nat->Nat) (l l':Sg D):Bool:=(qR l').all fun i=>fG i (bW (aH .no l' KP)) || !fG (f i) (bW (aH .no l KP))
omit [bR D] in
theorem lD {l:Sg D} {k:Key} {x:XV D} (h:aH .no l k=x) (hx:x≠.no):(k,x)∈l:=by
 induction l with
 | nil=>exact absurd h.symm hx
 | cons p r ih =>
  obtain⟨q,y⟩:=p;unfold aH at h;cases e:Key.beq q k with
  | true =>
   rw[e,cond_true] at h;rw[rD.1 e,h];exact List.mem_cons_self
  | false =>
   rw[e,cond_false] at h;exact List.mem_cons_of_mem _ (ih h)
omit [bR D] in
theorem aC5 {l:Sg D} {i:Nat} {x:XV D} (h:(Key.b i,x)∈l) (hx:(∃ T ch,x=.blk T ch)\/∃ T k m,x=.row T k m):i∈qR l:=by
 induction l with
 | nil=>cases h
 | cons p r ih =>
  obtain⟨q,y⟩:=p;rcases List.mem_cons.1 h with e | e
  ·injection e with e1 e2;subst e1; subst e2;rcases hx with ⟨T,ch,rfl⟩ | ⟨T,k,m,rfl⟩
   ·exact List.mem_cons_self
   ·exact List.mem_cons_self
  ·have:=ih e;cases q<;>cases y<;>first | exact this | exact List.mem_cons_of_mem _ this
theorem xN.at {f:Nat->Nat} {l l':Sg D} (h:xN f l l') {k:Key} {x:XV D} (hm:(k,x)∈l'):(aH .no l (xU f k)).leR f x:=by
 induction l' with
 | nil=>cases hm
 | cons p r ih =>
  obtain⟨q,y⟩:=p;rcases List.mem_cons.1 hm with e | e
  ·injection e with e1 e2;subst e1; subst e2;exact h.1
  ·exact ih h.2 e
theorem oE (f:Nat->Nat) {l l':Sg D} (h:xN f l l') (ho:ownB l'=true) (hp:aNy l'=true) (hi:aN0 f l'=true) (hn:npB f l l'=true):bQ l l':=by
 rintro cx n a w ⟨ρ,hC⟩;have hb:∀ i T ch,aH .no l' (.b i)=.blk T ch->∃ ch0,aH .no l (.b (f i))=.blk T ch0/\∀ L ρ w cs,cE L ρ w ch0 cs->cE L (fun i=>ρ (f i)) w ch cs:=by
  intro i T ch hi;have hle:=h.at (lD hi (by simp));cases e:aH .no l (xU f (.b i)) with
  | blk T0 ch0=>rw[e] at hle; obtain⟨rfl,h2⟩:=hle; exact⟨ch0,e,h2⟩
  | no=>rw[e] at hle; exact hle.elim
  | av x=>rw[e] at hle; exact hle.elim
  | row _ _ _=>rw[e] at hle; exact hle.elim
  | dead=>rw[e] at hle; exact hle.elim
  | np _=>rw[e] at hle; exact hle.elim
 have hr:∀ i T k m,aH .no l' (.b i)=.row T k m->∃ m0,aH .no l (.b (f i))=.row T k m0/\m0.length=m.length/\(m0.flatMap SA.ptrs=[]->m.flatMap SA.ptrs=[])/\∀ L ρ w cs,cE L ρ w (cY k m0) cs->cE L ρ w (cY k m) cs:=by
  intro i T k m hi;have hle:=h.at (lD hi (by simp));cases e:aH .no l (xU f (.b i)) with
  | row T0 k0 m0=>rw[e] at hle; obtain⟨rfl,rfl,h2,h3⟩:=hle; exact⟨m0,e,h2,h3⟩
  | no=>rw[e] at hle; exact hle.elim
  | av x=>rw[e] at hle; exact hle.elim
  | blk _ _=>rw[e] at hle; exact hle.elim
  | dead=>rw[e] at hle; exact hle.elim
  | np _=>rw[e] at hle; exact hle.elim
 have hlive:∀ i,live (aH .no l') (fun i=>ρ (f i)) i->live (aH .no l) ρ (f i)/\i∈qR l':=by
  intro i hl;rcases fZ hl with ⟨T,ch,e⟩ | ⟨T,k,m,e,hc⟩
  ·obtain⟨ch0,e1,_⟩:=hb i T ch e;exact⟨iV e1,aC5 (lD e (by simp)) (.inl ⟨_,_,rfl⟩)⟩
  ·obtain⟨m0,e1,_⟩:=hr i T k m e;exact⟨(iU e1).2 hc,aC5 (lD e (by simp)) (.inr ⟨_,_,_,rfl⟩)⟩
 have g:Goes (aY cx (aH .no l) ρ) w (aY cx (aH .no l') fun i=>ρ (f i)) w:=by
  refine Goes.less ?_;rintro b (h1 | ⟨i,h1,h2⟩)
  ·exact .inl h1
  ·exact .inr ⟨f i,(hlive i h1).1,h2⟩
 refine⟨fun i=>ρ (f i),hC.size,hC.defers,hC.kept,?_,?_,?_,?_,?_,?_,?_⟩
 ·intro i hl;exact hC.mine (f i) (hlive i hl).1
 ·intro i T ch hi;obtain⟨ch0,h1,h2⟩:=hb i T ch hi;obtain⟨cs,h4,h5⟩:=hC.blk (f i) T ch0 h1;exact⟨cs,h4,h2 _ _ _ _ (h5.go g fun _ _=>rfl)⟩
 ·intro i T k m hi;obtain⟨m0,h1,h2,h2p,h3⟩:=hr i T k m hi;obtain⟨h4,h5⟩:=hC.row (f i) T k m0 h1;refine⟨⟨by rw[<- h2]; exact h4.1,h4.2.1,h2p h4.2.2⟩,fun hc=>?_⟩;obtain⟨cs,sp,q1,q2,q3,q5⟩:=h5 hc;refine⟨cs,sp,q1,(h3 _ _ _ _ (q2.go g fun _ _=>rfl)).go (Goes.refl _ _) (by rw[uB,h2p h4.2.2]; intro b hb; cases hb),q3,fun q=>q5 fun q'=>?_⟩;have:=List.all_eq_true.1 hn i (aC5 (lD hi (by simp)) (.inr ⟨_,_,_,rfl⟩));rw[Bool.or_eq_true] at this;rcases this with t | t
  ·exact q (eM.1 t)
  ·rw[eM.2 q'] at t; cases t
 ·intro i j hli hlj he;have h1:=hC.inj _ _ (hlive i hli).1 (hlive j hlj).1 he;have:=List.all_eq_true.1 (List.all_eq_true.1 hi i (hlive i hli).2) j (hlive j hlj).2;rw[h1,Bool.or_eq_true] at this;rcases this with t | t
  ·rw[show Nat.beq (f j) (f j)=true from Nat.beq_refl _] at t; cases t
  ·exact Nat.eq_of_beq_eq_true t
 ·intro t av ht;have hle:=h.at (lD ht (by simp));cases e:aH .no l (xU f (.s t)) with
  | av x=>rw[e] at hle; exact hle _ _ _ _ ((hC.slt t x e).go g fun _ _=>rfl)
  | no=>rw[e] at hle; exact hle.elim
  | blk _ _=>rw[e] at hle; exact hle.elim
  | row _ _ _=>rw[e] at hle; exact hle.elim
  | dead=>rw[e] at hle; exact hle.elim
  | np _=>rw[e] at hle; exact hle.elim
 ·intro k b hb';have hne:aH .no l' k≠.no:=fun e=>by rw[e] at hb'; cases hb'
  have hm:=lD rfl hne;have:=List.all_eq_true.1 (List.all_eq_true.1 ho _ hm) b hb';intro e;rw[e] at this;cases this
 ·intro i T ch hi hq;have hm:=lD hi (by simp);have:=List.all_eq_true.1 hp _ hm;simp only[Bool.or_eq_true] at this;rcases this with t | t
  ·exact t
  ·exact absurd (eM.1 t) hq
theorem bQ.mk {l l':Sg D} (h:aX4 l l') (ho:ownB l'=true) (hp:aNy l'=true) (hi:aN0 id l'=true:=by exact rfl) (hn:npB id l l'=true:=by exact rfl):bQ l l':=oE id h ho hp hi hn
/-! A function. -/
def gW:Nat->List (SA D)->Sg D
 | _,[]=>[]
 | i,s::r=>(.s i,.av (.one s))::gW (i+1) r
def Fin (P:Program) (cx:Cx D) (n:Nat) (fn:Func) (r:AV D) (e:Exit) (l:Sg D):Prop :=
 (e=.normal\/e=.ret)/\∀ ρ a w,Conc cx n ρ (aH .no l) a w->∃ v,(results fn a.tmps).run P w=.ok v w/\r.is (aY cx (aH .no l) ρ) ρ w v
omit [bR D] in
theorem wW:∀ (args:List (SA D)) (i:Nat) (k:Key) (x:XV D),(k,x)∈gW i args->∃ j s,args[j]?=some s/\k=.s (i+j)/\x=.av (.one s)
 | [],_,_,_,h=>by cases h
 | s::r,i,k,x,h=>by
  rcases List.mem_cons.1 h with e | e
  ·injection e with e1 e2;exact⟨0,s,rfl,e1,e2⟩
  ·obtain⟨j,s',h1,h2,h3⟩:=wW r (i+1) k x e;exact⟨j+1,s',by simpa using h1,by rw[h2]; congr 1; omega,h3⟩
theorem aDn {L:Nat->Prop} {ρ:aX} {w:World}:∀ {l:List (SA D)} {vs:List Value} {j:Nat} {s:SA D},dN L ρ w l vs->l[j]?=some s->∃ v,vs[j]?=some v/\s.is L ρ w v
 | [],_,j,_,_,h=>by cases j<;>cases h
 | x::l,[],_,_,h,_=>h.elim
 | x::l,y::vs,0,s,h,hj=>by
  have e:x=s:=by simpa using hj
  rw[<- e];exact⟨y,rfl,h.1⟩
 | x::l,y::vs,j+1,s,h,hj=>by
  obtain⟨v,h1,h2⟩:=aDn (j:=j) h.2 (by simpa using hj);exact⟨v,by simpa using h1,h2⟩
theorem yP {L:Nat->Prop} {ρ:aX} {w:World}:∀ {l:List (SA D)} {vs:List Value},dN L ρ w l vs->vs.length=l.length
 | [],[],_=>rfl
 | _::_,_::_,h=>congrArg (·+1) (yP h.2)
theorem aC.start {fn:Func} {args:List (SA D)} {L:Nat->Prop} {ρ:aX} {w:World} {vs:List Value} {cx:iQ D} (hcl:gC args=[]) (hn:args.length<=fn.ntmps) (hall:dN L ρ w args vs) (hw:cx.w0=w) (hL:cx.L0=L) :
  CC cx fn.ntmps (aH .no (gW 0 args)) { tmps:=vs.toArray++Array.replicate (fn.ntmps-vs.toArray.size) undef,defers:=[] } w:=by
 subst hw;subst hL;have hlen:=yP hall;have hk:∀ k x,aH .no (gW 0 args) k=x->x≠.no->∃ j s,args[j]?=some s/\k=.s j/\x=.av (.one s):=by
  intro k x h1 h2;obtain⟨j,s,h3,h4,h5⟩:=wW args 0 k x (lD h1 h2);exact⟨j,s,h3,by rw[h4,Nat.zero_add],h5⟩
 have hnb:∀ i,aH .no (gW 0 args) (.b i)=.no:=by
  intro i;refine Classical.byContradiction fun hi=>?_;obtain⟨j,s,_,h2,_⟩:=hk _ _ rfl hi;cases h2
 have hnl:∀ i,¬ live (aH .no (gW 0 args)) ρ i:=fun i h=>wV h (hnb i);have hLof:∀ b,aY cx (aH .no (gW 0 args)) ρ b->cx.L0 b:=by
  rintro b (h1 | ⟨i,h1,_⟩)
  ·exact h1
  ·exact absurd h1 (hnl i)
 refine⟨ρ,?_,rfl,Kept.refl _ _ _,fun i h=>absurd h (hnl i),fun i T ch hi=>?_,fun i T k l hi=>?_,fun i j h=>absurd h (hnl i),?_,?_,fun i T ch hi=>?_⟩
 ·simp; omega
 ·rw[hnb] at hi; cases hi
 ·rw[hnb] at hi; cases hi
 ·intro t av ht;obtain⟨j,s,h1,h2,h3⟩:=hk _ _ ht (by simp);injection h2 with h2;subst h2;obtain rfl:=(XV.av.injEq _ _).mp h3;obtain⟨v,h4,h5⟩:=aDn hall h1;have hv:(vs.toArray++Array.replicate (fn.ntmps-vs.toArray.size) undef).getD t undef=v:=by
   have hlt:=(List.getElem?_eq_some_iff.1 h4).1;rw[Array.getD_eq_getD_getElem?,Array.getElem?_append_left (by simpa using hlt),List.getElem?_toArray,h4];rfl
  show SA.is _ _ _ s _;rw[hv];exact h5.go (Goes.less hLof) fun _ _=>rfl
 ·intro k b hb';obtain⟨j,s,h1,h2,h3⟩:=hk k _ rfl (fun e=>by rw[e] at hb'; cases hb');rw[h3] at hb';have:b∈gC args:=List.mem_flatMap.2 ⟨s,List.mem_of_getElem? h1,hb'⟩;rw[hcl] at this;cases this
 ·rw[hnb] at hi; cases hi
theorem aC.fin {f:FuncId} {fn:Func} {c:Code} {args:List (SA D)} {r:AV D} {L:Nat->Prop} {ρ:aX} {w:World} {vs:List Value} {cx:iQ D} (hf:P.funcs[f]?=some fn) (hb:fn.body=some c) (hr:r.ptrs=[])
  (hcl:gC args=[]) (hn:args.length<=fn.ntmps) (hall:dN L ρ w args vs) (hw:cx.w0=w) (hL:cx.L0=L) (hB:∀ b,¬ cx.Bw b)
  (h:CV P cx fn.ntmps c (gW 0 args) (Fin P cx fn.ntmps fn r)):Calls P f vs.toArray w fun e w'=>∃ v,e=.returned v/\Below w.heap.size w w'/\r.is L ρ w' v:=by
 refine calls_of_wp hf hb (wp_mono (h.run _ w (aC.start hcl hn hall hw hL)) ?_);subst hw;subst hL;rintro e a' w' ⟨l',⟨ρ',hC'⟩,he,hres⟩;obtain⟨v,h1,h2⟩:=hres ρ' a' w' hC';have hfin:∃ v,(results fn a'.tmps).run P w'=.ok v w'/\∃ v',Ending.returned v=.returned v'/\Below cx.w0.heap.size cx.w0 w'/\r.is cx.L0 ρ w' v' :=
  ⟨v,h1,v,rfl,hC'.kept.below hB,h2.go (Goes.less fun b hb=>.inl hb) (by rw[hr]; intro b hb; cases hb)⟩
 rcases he with rfl | rfl
 ·exact⟨hC'.defers,hfin⟩
 ·exact⟨hC'.defers,hfin⟩
theorem aC.of {f:FuncId} {fn:Func} {c:Code} {args:List (SA D)} {r:AV D} (hf:P.funcs[f]?=some fn) (hb:fn.body=some c) (hnt:fn.ntmps=n) (hcl:gC args=[]) (hn:Nat.ble args.length n=true) (hr:r.ptrs=[])
  (h:∀ cx:iQ D,cx.fr=false->CV P cx n c (gW 0 args) (Fin P cx n fn r)):aC P f args r:=by
 subst hnt;intro L ρ w vs hlt hni hwf hall;exact aC.fin (cx:=⟨w,L,hlt,false,fun _=>False,fun _ q=>q.elim,fun _ _ q=>q,fun _=>hni,fun _ w' hk=>bR.W_keep _ _ (hk.below fun _ q=>q) hwf⟩) hf hb hr hcl (Nat.le_of_ble_eq_true hn) hall rfl rfl (fun _ q=>q) (h _ rfl)
theorem aC.mono {f:FuncId} {args args':List (SA D)} {r r':AV D} (h:aC P f args r) (ha:∀ L ρ w vs,dN L ρ w args' vs->dN L ρ w args vs) (hr:∀ L ρ w v,r.is L ρ w v->r'.is L ρ w v):aC P f args' r':=by
 intro L ρ w vs h1 h2 hw h3;refine(h L ρ w vs h1 h2 hw (ha _ _ _ _ h3)).mono ?_;rintro e w' ⟨v,rfl,h4,h5⟩;exact⟨v,rfl,h4,hr _ _ _ _ h5⟩
def vF (P:Program) (σ:St D) (s:SA D):ResultVar->Prop
 | .tmp t=>σ (.s t)=.av (.one s)
 | .cell p ty=>∃ i off T ch k,σ (.s p)=.av (.one (.ptr i off))/\σ (.b i)=.blk T ch/\lO ch off=some (k,s)/\dG P ty k
def iZ (tmps:Array Value):ResultVar->Sem Value
 | .tmp t=>pure (tmps.getD t undef)
 | .cell a t=>do loadVar t (<- asAddr (tmps.getD a undef))
theorem vF.run {ρ:aX} {σ:St D} {a:Act} {w:World} {s:SA D} {rv:ResultVar} (h:Conc cx n ρ σ a w) (hr:vF P σ s rv):∃ v,(iZ a.tmps rv).run P w=.ok v w/\s.is (aY cx σ ρ) ρ w v:=by
 cases rv with
 | tmp t=>exact⟨_,rfl,h.slt t _ hr⟩
 | cell p ty =>
  obtain⟨i,off,T,ch,k,h1,h2,h3,h4⟩:=hr;obtain⟨cs,hcs,hch⟩:=h.blk i T ch h2;obtain⟨pre,q,post,v,rfl,rfl,k3,k4,_,_⟩:=hch.at h3;have hev:a.tmps.getD p undef=.pointer (some ⟨(ρ i).1,pre.length,none⟩):=h.slt p _ h1;refine⟨v,?_,k4⟩;simp only[iZ,hev,asAddr,Sem.run_bind,Sem.run_pure,Result.andThen_ok];exact yJ hcs k3 h4
omit [bR D] in
theorem andThen_assoc {α β γ:Type} (x:Result α) (f:α->World->Result β) (g : β->World->Result γ):(x.andThen f).andThen g=x.andThen fun a w=>(f a w).andThen g:=by cases x<;>rfl
omit [bR D] in
theorem aGq {α:Type} (x:Result α):(x.andThen fun v w=>.ok v w)=x:=by cases x<;>rfl
theorem aW {fn:Func} {rv:ResultVar} {s:SA D} {r:AV D} {e:Exit} (hres:fn.results=#[rv]) (he:e=.normal\/e=.ret) (hr:vF P (aH .no l) s rv) (hc:∀ L ρ w v,s.is L ρ w v->r.is L ρ w v):Fin P cx n fn r e l:=by
 refine⟨he,fun ρ a w h=>?_⟩;obtain⟨v,h1,h2⟩:=hr.run h;refine⟨v,?_,hc _ _ _ _ h2⟩;have:(results fn a.tmps).run P w=((iZ a.tmps rv).run P w).andThen fun v w=>.ok v w:=by
  cases rv<;>simp[results,hres,iZ,andThen_assoc,aGq]
 rw[this,h1];rfl
theorem sM {fn:Func} {rv rv':ResultVar} {s s':SA D} {r:AV D} {e:Exit} (hres:fn.results=#[rv,rv']) (he:e=.normal\/e=.ret) (hr:vF P (aH .no l) s rv) (hr':vF P (aH .no l) s' rv') (hc:∀ L ρ w v,(AV.tup [s,s']).is L ρ w v->r.is L ρ w v):Fin P cx n fn r e l:=by
 refine⟨he,fun ρ a w h=>?_⟩;obtain⟨v,h1,h2⟩:=hr.run h;obtain⟨v',h1',h2'⟩:=hr'.run h;refine⟨.tuple #[v,v'],?_,hc _ _ _ _ ⟨[v,v'],rfl,h2,h2',trivial⟩⟩;have:(results fn a.tmps).run P w=((iZ a.tmps rv).run P w).andThen fun v w=>((iZ a.tmps rv').run P w).andThen fun v' w=>.ok (.tuple #[v,v']) w:=by
  cases rv<;>cases rv'<;>simp[results,hres,iZ,andThen_assoc]
 rw[this,h1];show ((iZ a.tmps rv').run P w).andThen _=_;rw[h1'];rfl
theorem cH {s:SA D}:∀ L ρ w v,s.is L ρ w v->(AV.one s).is L ρ w v:=fun _ _ _ _ h=>h
theorem lM {s s':SA D} (h:s=s'):∀ L ρ w v,s.is L ρ w v->(AV.one s').is L ρ w v:=by subst h; exact cH
theorem fV {b b':Bool} (h:b=b'):∀ L ρ w v,(SA.v (.bool b):SA D).is L ρ w v->(AV.one (SA.v (.bool b'):SA D)).is L ρ w v:=lM (by rw[h])
theorem uR {k:IntKind} {b b':Int} (h:b=b'):∀ L ρ w v,(SA.v (.int k b):SA D).is L ρ w v->(AV.one (SA.v (.int k b'):SA D)).is L ρ w v:=lM (by rw[h])
theorem aEi {s s':SA D}:∀ L ρ w v,(AV.tup [s,s']).is L ρ w v->(AV.tup [s,s']).is L ρ w v:=fun _ _ _ _ h=>h
end
end Vc
end Go.Proofs.YtjmbkipbmbnhjaaGreat
