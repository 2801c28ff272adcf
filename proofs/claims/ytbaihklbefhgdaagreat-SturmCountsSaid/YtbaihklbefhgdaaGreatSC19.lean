/-
  
-/
import Derived.Test.YtbaihklbefhgdaaGreatSC3
import Derived.BigQuiet
import Derived.Deep.QuietTactic
set_option linter.unusedVariables false
set_option linter.unusedSimpArgs false
set_option linter.unusedSectionVars false
namespace Go.Proofs.YtbaihklbefhgdaaGreat
open Go.RowKit
open Go.Lib (hid)
open Dg
namespace Zn
def bA (x y:Int):Int:=if x<y then -1 else if y<x then 1 else 0
set_option maxHeartbeats 400000 in
theorem aNa (x y:Int) (w:World) :
  Calls Tryz.prog 217 #[.int .i64 x,.int .i64 y] w fun e w'=>e=.returned (.int .i64 (bA x y))/\w'=w:=by
 go_enter Tryz.func217,Tryz.ntmps217
 go_wp2
 all_goals (go_ret; refine⟨?_,rfl⟩; unfold bA; (repeat' split)<;>first | rfl | (exfalso; omega))
theorem sH {k:IntKind} {a b:Int} (h:a=b):Ending.returned (.int k a)=.returned (.int k b):=by rw[h]
theorem aLm (x:Int):(0:Int)=bA x x:=by unfold bA; rw[if_neg (by omega),if_neg (by omega)]
def yI (w:World) (x:Int) (e:Ending) (w':World):Prop:=e=.returned (.int .i64 x)/\Below w.heap.size w w'
theorem tI {m n:Nat} (h:m<n):bA m n = -1:=by unfold bA; rw[if_pos (by omega)]
theorem tJ {m n:Nat} (h:n<m):bA m n=1:=by unfold bA; rw[if_neg (by omega),if_pos (by omega)]
theorem aYf {m n:Nat} (h:(aA m).length≠(aA n).length):bA ((aA m).length:Int) ((aA n).length:Int)=bA m n:=by
 rcases Nat.lt_or_ge (aA m).length (aA n).length with h1 | h1
 ·rw[tI h1,tI (vY h1)]
 ·have h1:(aA n).length<(aA m).length:=by omega
  rw[tJ h1,tJ (vY h1)]
theorem aOl {a b:List Nat} {i:Nat} (ha:aP a) (hb:aP b) (hi:i<a.length) (hj:i<b.length) (hd:a.drop (i+1)=b.drop (i+1)) (h:a.getD i 0≠b.getD i 0):bA ((a.getD i 0:Nat):Int) ((b.getD i 0:Nat):Int)=bA (val a) (val b):=by
 have e1:a.getD i 0=a[i]:=by simp[List.getD_eq_getElem?_getD,hi]
 have e2:b.getD i 0=b[i]:=by simp[List.getD_eq_getElem?_getD,hj]
 rw[e1,e2] at h |-;rcases Nat.lt_or_ge a[i] b[i] with h1 | h1
 ·rw[tI h1,tI (aOz ha hi hj hd h1)]
 ·have h1:b[i]<a[i]:=by omega
  rw[tJ h1,tJ (aOz hb hj hi hd.symm h1)]
set_option maxHeartbeats 1000000 in
theorem wC (va vb:Value) (m n:Nat) (w:World) (ha:aL w va (aA m)) (hb:aL w vb (aA n)) :
  Calls Tryz.prog 188 #[va,vb] w (yI w (bA m n)):=by
 obtain⟨ao,ac,rfl,a1,a2,a3⟩:=ha;obtain⟨bo,bc,rfl,b1,b2,b3⟩:=hb;have HA:=hid a3;have HB:=hid b3;clear a3 b3;unfold maxLen at a2 b2;obtain⟨x,hx⟩:∃ x,x=aA m:=⟨_,rfl⟩
 obtain⟨y,hy⟩:∃ y,y=aA n:=⟨_,rfl⟩
 rw[<- hx] at HA a1 |-;rw[<- hy] at HB b1 |-;have HX:=hid hx;have HY:=hid hy;clear hx hy;by_cases hl:x.length=y.length
 ·have hne:(((x.length:Nat):Int) != ((y.length:Nat):Int))=false:=by rw[hl]; exact bne_self_eq_false ..
  have HL:=hid hl;have hl1:x.length<=y.length:=by omega
  have hl2:y.length<=x.length:=by omega
  clear hl
  go_enter Tryz.func188,Tryz.ntmps188
  go_wp2
  go_loopw [5] (fun i wr=>∃ k:Nat,k<=x.length/\i=.int .i64 ((k:Int)-1)/\x.drop k=y.drop k/\Below w.heap.size w wr) (fun i _=>(intOf i+1).toNat)
  case atStart=>exact⟨x.length,Nat.le_refl _,rfl,by rw[List.drop_length,HL.out,List.drop_length],Below.refl _ _⟩
  case round =>
   obtain⟨k,hk,rfl,hdr,hbel⟩:=hrel;have HD:=hid hdr;have HBL:=hid hbel;clear hdr hbel;rcases Nat.eq_zero_or_pos k with h0 | h0
   ·subst h0;go_wp2
    go_ret
    have h:=HD.out;rw[List.drop_zero,List.drop_zero,HX.out,HY.out] at h;exact⟨sH (by rw[aAx h,aLm]),HBL.out⟩
   ·obtain⟨j,rfl⟩:∃ j,k=j+1:=⟨k-1,by omega⟩
    obtain⟨p,po,rfl,hp⟩:=HA.out (by omega);obtain⟨q,qo,rfl,hq⟩:=HB.out (by omega);have hpj:_:=keepCell HBL.out (hp j (by omega));have hqj:_:=keepCell HBL.out (hq j (by omega));obtain⟨dx,hdx⟩:∃ d,d=x.getD j 0:=⟨_,rfl⟩
    obtain⟨dy,hdy⟩:∃ d,d=y.getD j 0:=⟨_,rfl⟩
    rw[<- hdx] at hpj;rw[<- hdy] at hqj;have HDX:=hid hdx;have HDY:=hid hdy;have e1:((j+1:Nat):Int)-1=(j:Int):=by omega
    rw[e1];clear hp hq hdx hdy e1;by_cases hd:dx=dy
    ·subst hd;have hdd:(((dx:Nat):Int) != ((dx:Nat):Int))=false:=bne_self_eq_false ..;go_wp2
     go_quiet (fail)
     have HN:=hid (below_drewN HBL.out nq);go_wp2
     go_roundw
     case rel =>
      refine⟨j,by omega,rfl,?_,HN.out⟩;rw[List.drop_eq_getElem_cons (show j<x.length by omega),List.drop_eq_getElem_cons (show j<y.length by omega),HD.out];congr 1;have e1:=HDX.out;have e2:=HDY.out;simp only[List.getD_eq_getElem?_getD,List.getElem?_eq_getElem (show j<x.length by omega),List.getElem?_eq_getElem (show j<y.length by omega),Option.getD_some] at e1 e2;rw[<- e1,<- e2]
     case measure=>simp[intOf]
    ·have hdd:(((dx:Nat):Int) != ((dy:Nat):Int))=true:=by rw[bne_iff_ne]; omega
     go_wp2
     go_quiet (fail)
     obtain⟨w2,hw2⟩:∃ w2,w2=wr.drewN nq:=⟨_,rfl⟩
     have hpj2:w2.cell? ⟨p,po+j,none⟩=some (.int .i64 (dx:Int)):=by rw[hw2]; exact hpj
     have hqj2:w2.cell? ⟨q,qo+j,none⟩=some (.int .i64 (dy:Int)):=by rw[hw2]; exact hqj
     have HN:=hid (show Below w.heap.size w w2 by rw[hw2]; exact below_drewN HBL.out nq);rw[<- hw2];clear hw2 hpj hqj;go_wp2
     go_quiet ((go_at_call 217; exact Calls.quiet_of_same (aNa _ _ _)))
     go_wp2
     go_ret
     refine⟨sH ?_,below_drewN HN.out _⟩;rw[HDX.out,HDY.out,aOl (by rw[HX.out]; exact bF _) (by rw[HY.out]; exact bF _) (by omega) (by omega) HD.out (by rw[<- HDX.out,<- HDY.out]; exact hd),HX.out,HY.out,aX,aX]
 ·have hne:(((x.length:Nat):Int) != ((y.length:Nat):Int))=true:=by rw[bne_iff_ne]; omega
  have HL:=hid hl;clear hl
  go_enter Tryz.func188,Tryz.ntmps188
  go_wp2_with (go_at_call 217; refine(aNa _ _ _).mono ?_; rintro e w' ⟨rfl,rfl⟩)
  go_ret
  exact⟨sH (by rw[HX.out,HY.out]; exact aYf (by rw[<- HX.out,<- HY.out]; exact HL.out)),Below.refl _ _⟩
end Zn
end Go.Proofs.YtbaihklbefhgdaaGreat
