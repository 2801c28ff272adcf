/-
  Decode of package integer and of the ref
-/
import Derived.Test.YtcblbepaigdlgaaGreatJB12
import Derived.Test.YtcblbepaigdlgaaGreatJB45
import Derived.Test.YtcblbepaigdlgaaGreatJB20
import Derived.Test.YtcblbepaigdlgaaGreatJB25
import Derived.Test.YtcblbepaigdlgaaGreatJB44
set_option linter.unusedVariables false
set_option linter.unusedSimpArgs false
set_option linter.unusedSectionVars false
namespace Go.Proofs.YtcblbepaigdlgaaGreat
open Go.RowKit
open Go.Lib (hid)
open Dg Zn Tx
namespace Vc
set_option maxRecDepth 100000
theorem is_tri {s s' : SA Dm} {u u' t t' : Value} (h : ∀ L ρ w v, s.is L ρ w v → s'.is L ρ w v) (hu : u = u') (ht : t = t') : ∀ L ρ w v, (AV.tup [s, .v u, .v t]).is L ρ w v → (AV.tup [s', .v u', .v t']).is L ρ w v := by
 subst hu ht
 rintro L ρ w v ⟨vs, rfl, hall⟩
 match vs, hall with
 | [a, b, c], ⟨k1, k2, k3, _⟩ => exact ⟨[a, b, c], rfl, h _ _ _ _ k1, k2, k3, trivial⟩
theorem row_is {L : Nat → Prop} {ρ : Rho} {w : World} {v : Value} {zs : List Int} (h : Row .i64 w v zs) (hn : NoInt L w) : (ZI .i64 zs).is L ρ w v := by
 intro w' hag
 obtain ⟨ao, cap, h1, h2, h3, h4⟩ := h
 refine row_at ⟨ao, cap, h1, h2, h3, fun hl => ?_⟩
 obtain ⟨b, off, h5, h6⟩ := h4 hl
 exact ⟨b, off, h5, fun i hi => cell_agree hn hag (h6 i hi)⟩
theorem byte_view {w : World} {v : Value} {bs : List Int} (hb : W.Bs bs) (h : Row .u8 w v bs) : ByteView w v bs := by
 obtain ⟨ao, cap, h1, h2, h3, h4⟩ := h
 exact ⟨hb, ao, cap, h1, h2, h3, fun hne => h4 (List.length_pos_iff.2 hne)⟩
theorem map_flat (l : List Int) : l.map (Value.int .i64) = l.flatMap fun x => [Value.int .i64 x] := by
 induction l with
 | nil => rfl
 | cons a l ih => rw [List.map_cons, List.flatMap_cons, ih]; rfl
theorem listed_con {f : FuncId} {bs : List Int} {l : List Int} {u : Nat} {e : Int} (hq : W.decList W.dec 1 bs = (l, u, e)) (h : ∀ v w, Row .u8 w v bs → Calls Tryz.prog f #[v] w (Listed w 3 1 (fun x => [Value.int .i64 x]) (W.decList W.dec 1 bs))) :
  Con Tryz.prog f [ZI .u8 bs] (.tup [ZI .i64 l, .v (.int .i64 (u : Int)), .v (.int .i64 e)]) := by
 rintro L ρ w vs hlt hn hwf hall
 match vs, hall with
 | [v], ⟨h1, _⟩ =>
  refine (h v w (zi_row h1)).mono ?_
  rw [hq]
  rintro e w' ⟨hbel, x, rfl, hown⟩
  have hrow : Row .i64 w' x l := Row.of_owns (by rw [map_flat]; exact hown)
  exact ⟨_, rfl, hbel, ⟨[_, _, _], rfl, row_is hrow (noInt_below hn hlt hbel), rfl, rfl, trivial⟩⟩
theorem GetInts_con (bs : List Int) (hb : W.Bs bs) (hl : bs.length ≤ 1099511627776) {l : List Int} {u : Nat} {e : Int} (hq : W.decList W.dec 1 bs = (l, u, e)) : Con Tryz.prog 156 [ZI .u8 bs] (.tup [ZI .i64 l, .v (.int .i64 (u : Int)), .v (.int .i64 e)]) :=
 listed_con hq fun v w h => GetInts_any v bs w (byte_view hb h) hl
theorem rGetInts_con (bs : List Int) (hb : W.Bs bs) (hl : bs.length ≤ 1099511627776) {l : List Int} {u : Nat} {e : Int} (hq : W.decList W.dec 1 bs = (l, u, e)) : Con Tryz.prog 157 [ZI .u8 bs] (.tup [ZI .i64 l, .v (.int .i64 (u : Int)), .v (.int .i64 e)]) :=
 listed_con hq fun v w h => refGetInts_any v bs w (byte_view hb h) hl
theorem raw_cells {b : Bool} {zs : List Int} {w : World} {cs : List Value} (h : Dm.at (.gen (rawG b zs)) w (.agg cs.toArray)) : ∃ a n c, cs = [.bool b, .slice a n c] ∧ Row .i64 w (.slice a n c) zs := by
 obtain ⟨s, h1, h2⟩ := h
 obtain ⟨a, n, c, rfl⟩ := row_slice h2
 injection h1 with h1
 exact ⟨a, n, c, by simpa using congrArg Array.toList h1, h2⟩
theorem fld_rawneg {b : Bool} {zs : List Int} : Fld (Dm.gen (rawG b zs)) 0 none (.v (.bool b)) := by
 intro w cs h
 obtain ⟨a, n, c, rfl, hs⟩ := raw_cells h
 exact ⟨[], [_], [_], _, rfl, rfl, ⟨rfl, rfl⟩, rfl⟩
theorem fld_rawdig {b : Bool} {zs : List Int} : Fld (Dm.gen (rawG b zs)) 1 none (ZI .i64 zs) := by
 intro w cs h
 obtain ⟨a, n, c, rfl, hs⟩ := raw_cells h
 exact ⟨[_], [_], [], _, rfl, rfl, ⟨rfl, rfl⟩, row_at hs⟩
theorem raw_int {b : Bool} {zs : List Int} {z : Int} {k : Nat} (h1 : decide (z < 0) = b) (h2 : (dig z.natAbs).map Int.ofNat = zs) (hk : len z ≤ k) : ∀ L ρ w v, (SA.d (Dm.gen (rawG b zs))).is L ρ w v → (SA.d (Dm.int z k)).is L ρ w v := by
 subst h1 h2
 intro L ρ w v h w' hw
 obtain ⟨s, e, hs⟩ := h w' hw
 exact ⟨⟨s, e, nums_of_row hs⟩, hk⟩
theorem zi_dl {ds : List Nat} {zs : List Int} (h : ds.map Int.ofNat = zs) : ∀ L ρ w v, (ZI .i64 zs).is L ρ w v → (SA.d (Dm.dl ds)).is L ρ w v := by
 subst h
 intro L ρ w v h w' hw
 exact nums_of_row (row_of_at (h w' hw))
theorem cmp0 (z : Int) : (cmpI z 0 < 0 ↔ z < 0) ∧ (cmpI z 0 = -1 ↔ z < 0) := by
 unfold cmpI
 split
 ·simp; omega
 ·split
  ·simp; omega
  ·simp; omega
theorem dec_bad {l : List Int} {b : Bool} (hv : validI b (l.drop 1) = false) (hb : ∀ z, cmpI z 0 = l.getD 0 0 → decide (z < 0) = b) : ¬ row0 (zOf l) = l := by
 intro h
 have h1 : l.getD 0 0 = cmpI (zOf l) 0 := by rw [← h, zOf_row0]; rfl
 have h2 : l.drop 1 = (dig (zOf l).natAbs).map Int.ofNat := by
  conv => lhs; rw [← h]
  rfl
 rw [h2, ← hb _ h1.symm, valid_dig] at hv
 cases hv
theorem dec_diff {l : List Int} {z : Int} (hz : (dig z.natAbs).map Int.ofNat = l.drop 1) (hb : ∀ y, cmpI y 0 = l.getD 0 0 → decide (y < 0) = decide (z < 0)) (hs : ¬ cmpI z 0 = l.getD 0 0) : ¬ row0 (zOf l) = l := by
 intro h
 have h1 : l.getD 0 0 = cmpI (zOf l) 0 := by rw [← h, zOf_row0]; rfl
 have h2 : l.drop 1 = (dig (zOf l).natAbs).map Int.ofNat := by
  conv => lhs; rw [← h]
  rfl
 have h3 := hb _ h1.symm
 have h4 : dig z.natAbs = dig (zOf l).natAbs := (List.map_inj_right (fun x y e => by injection e)).1 (hz.trans h2)
 have h5 : z.natAbs = (zOf l).natAbs := by rw [← val_dig z.natAbs, h4, val_dig]
 have h6 : z = zOf l := by
  have : (zOf l < 0) ↔ (z < 0) := by simpa using h3
  omega
 rw [h1, ← h6] at hs
 exact hs rfl
theorem dec_same {l : List Int} {z : Int} (hne : l ≠ []) (hz : (dig z.natAbs).map Int.ofNat = l.drop 1) (hs : cmpI z 0 = l.getD 0 0) : row0 (zOf l) = l ∧ zOf l = z := by
 have e : l = row0 z := by
  unfold row0
  rw [hz, hs]
  cases l with
  | nil => exact absurd rfl hne
  | cons a l => rfl
 exact row0_inj e
theorem decI_err {bs l : List Int} {u : Nat} {e : Int} (hq : W.decList W.dec 1 bs = (l, u, e)) (h : e ≠ 0) : decI bs = (0, 0, e) := by
 unfold decI
 rw [hq, if_pos h]
theorem decI_bad {bs l : List Int} {u : Nat} {e : Int} (hq : W.decList W.dec 1 bs = (l, u, e)) (h0 : e = 0) (h : ¬ row0 (zOf l) = l) : decI bs = (0, 0, 2) := by
 subst h0
 unfold decI
 rw [hq, if_neg (by simp), if_neg h]
theorem decI_ok {bs l : List Int} {u : Nat} {e z : Int} (hq : W.decList W.dec 1 bs = (l, u, e)) (h0 : e = 0) (h : row0 (zOf l) = l ∧ zOf l = z) : decI bs = (z, u, 0) := by
 subst h0
 unfold decI
 rw [hq, if_neg (by simp)]
 simp only
 rw [if_pos h.1, h.2]
theorem is_dec {bs : List Int} {z : Int} {u : Nat} {e : Int} {k : Nat} (h : decI bs = (z, u, e)) : ∀ L ρ w v, (AV.tup [.d (Dm.int z k), .v (.int .i64 (u : Int)), .v (.int .i64 e)]).is L ρ w v → (AV.tup [.d (Dm.int (decI bs).1 k), .v (.int .i64 ((decI bs).2.1 : Nat)), .v (.int .i64 (decI bs).2.2)]).is L ρ w v := by
 rw [h]
 exact fun _ _ _ _ h => h
theorem is_decz {bs : List Int} {e : Int} {j k : Nat} (h : decI bs = (0, 0, e)) : ∀ L ρ w v, (AV.tup [.d (Dm.int 0 j), .v (.int .i64 0), .v (.int .i64 e)]).is L ρ w v → (AV.tup [.d (Dm.int (decI bs).1 k), .v (.int .i64 ((decI bs).2.1 : Nat)), .v (.int .i64 (decI bs).2.2)]).is L ρ w v := by
 rw [h]
 exact is_tri (is_lenle (by show (dig 0).length ≤ _; rw [dig_zero]; exact Nat.zero_le _)) rfl rfl
section
variable (bs : List Int) (hb : W.Bs bs) (hl : bs.length ≤ 1000)
include hb hl
theorem Decode_con : Con Tryz.prog 137 [ZI .u8 bs] (.tup [.d (Dm.int (decI bs).1 1000), .v (.int .i64 ((decI bs).2.1 : Nat)), .v (.int .i64 (decI bs).2.2)]) := by
 have hlen := decList_len hb
 rcases hq : W.decList W.dec 1 bs with ⟨l, u, e⟩
 rw [hq] at hlen
 simp only at hlen
 refine Con.of (n := 48) Tryz.func137 rfl rfl rfl rfl rfl fun cx hfr => ?_
 refine sr rfl ?_
 refine p2 (ok_alloc (i := 0) rfl rfl bd zero_int rfl rfl rfl rfl) ?_
 refine xn ?_
 refine xn ?_
 refine RV.done (sr rfl ?_)
 refine xm ?_
 refine xd rfl (GetInts_con bs hb (by omega) hq) Tryz.func156 (xa rfl) hfr ?_
 refine xm ?_
 refine p1 (ok_extract rfl rfl bd rfl rfl) ?_
 refine p1 (ok_extract rfl rfl bd rfl rfl) ?_
 refine p1 (ok_extract rfl rfl bd rfl rfl) ?_
 refine xn ?_
 refine xn ?_
 refine xn ?_
 refine RV.done ?_
 refine CV.seq ?_
 refine sr rfl ?_
 refine xm ?_
 refine p1 (ok_neq rfl rfl bd rfl rfl) ?_
 refine RV.done ?_
 refine CV.cond rfl (fun he => ?_) (fun he => ?_)
 ·refine sr rfl ?_
  refine p1 (ok_buildI rfl rfl bd) ?_
  refine xm ?_
  refine p1 (ok_store rfl rfl rfl rfl rfl rfl rfl (ty_int).2 rfl rfl rfl rfl) ?_
  refine xn ?_
  refine xn ?_
  refine RV.done ?_
  refine CV.ret ?_
  exact fin3 rfl (.inr rfl) ⟨_, _, _, _, _, rfl, rfl, rfl, ty_int⟩ rfl rfl (is_decz (decI_err hq (by simpa using he)))
 ·refine CV.skip ?_
  refine CV.seq ?_
  refine sr rfl ?_
  refine xm ?_
  refine p1 (ok_lenL (ziV_length _) u_ints rfl rfl bd rfl) ?_
  refine p1 (ok_eql rfl rfl bd rfl rfl) ?_
  refine RV.done ?_
  refine CV.cond rfl (fun hn => ?_) (fun hn => ?_)
  ·refine sr rfl ?_
   refine p1 (ok_buildI rfl rfl bd) ?_
   refine p1 (ok_store rfl rfl rfl rfl rfl rfl rfl (ty_int).2 rfl rfl rfl rfl) ?_
   refine xn ?_
   refine xn ?_
   refine RV.done ?_
   refine CV.ret ?_
   have hne : l = [] := (by simpa using hn)
   exact fin3 rfl (.inr rfl) ⟨_, _, _, _, _, rfl, rfl, rfl, ty_int⟩ rfl rfl (is_decz (decI_bad hq (by simpa using he) (by rw [hne]; exact fun h => nomatch h)))
  ·have hne : l ≠ [] := (by rintro rfl; simp at hn)
   have hpos : 0 < l.length := List.length_pos_iff.2 hne
   have he0 : e = 0 := (by simpa using he)
   refine CV.skip ?_
   refine CV.seq ?_
   refine CV.region rfl (fun _ => by kernel_rfl) ?_
   refine xm ?_
   refine p1 (ok_idxL (k := none) (i := 0) (ziV_at hpos) u_ints sz_i64 (by decide) rfl rfl bd rfl rfl) ?_
   refine p1 (ok_loadP ty_i64 (by decide) rfl rfl bd rfl) ?_
   refine p1 (ok_lssB rfl rfl rfl bd rfl rfl) ?_
   refine xm ?_
   refine p1 (ok_cutL (k := none) (l' := ziV .i64 (l.drop 1)) (some 1) none none (by show ((ziV .i64 l).take (ziV .i64 l).length).drop 1 = _; rw [List.take_length, ziV_drop]) (by decide) (by rw [ziV_length]; exact hpos) (Nat.le_refl _) (Nat.le_refl _) (fun _ => rfl) u_ints sz_i64 rfl rfl bd rfl rfl trivial trivial) ?_
   refine p1 (ok_braw rfl rfl bd rfl rfl) ?_
   refine p2 (ok_alloc (i := 1) rfl rfl bd zero_int rfl rfl rfl rfl) ?_
   refine p1 (ok_store rfl rfl rfl rfl rfl rfl rfl (ty_int).2 rfl rfl rfl rfl) ?_
   refine RV.drawn (by kernel_rfl) ?_
   refine CV.seq ?_
   refine CV.seq ?_
   refine CV.region rfl (fun _ => by kernel_rfl) ?_
   refine p1 (ok_load rfl rfl bd rfl rfl rfl ty_int) ?_
   refine xc (VRaw_con _ _ _ rfl) Tryz.func104 (xa rfl) hfr ?_
   refine p1 (ok_not rfl rfl bd rfl) ?_
   refine xm ?_
   refine RV.bool (fun hv => ?_) (fun hv => ?_)
   ·refine xk ?_
    refine xk ?_
    refine xk ?_
    refine xk ?_
    refine xk ?_
    refine xk ?_
    refine p1 (ok_pickT rfl rfl bd rfl rfl rfl) ?_
    refine RV.drawn (by kernel_rfl) ?_
    refine CV.yes rfl ?_
    refine sr rfl ?_
    refine p1 (ok_buildI rfl rfl bd) ?_
    refine p1 (ok_store rfl rfl rfl rfl rfl rfl rfl (ty_int).2 rfl rfl rfl rfl) ?_
    refine xn ?_
    refine xn ?_
    refine RV.done ?_
    refine CV.ret ?_
    exact fin3 rfl (.inr rfl) ⟨_, _, _, _, _, rfl, rfl, rfl, ty_int⟩ rfl rfl (is_decz (decI_bad hq he0 (dec_bad (b := decide (l.getD 0 0 < 0)) (by simpa using hv) (fun z h => by rw [← h, decide_eq_decide]; exact (cmp0 z).1.symm))))
   ·obtain ⟨z, hz1, hz2⟩ := valid_int (b := decide (l.getD 0 0 < 0)) (zs := l.drop 1) (by simpa using hv)
    have hzl : len z ≤ 1000 := (by have := congrArg List.length hz2; rw [List.length_map, List.length_drop] at this; show (dig z.natAbs).length ≤ _; omega)
    refine RV.step1 (OpOk.yes (ok_load rfl rfl bd rfl rfl rfl ty_int) rfl rfl rfl) ?_
    refine RV.step1 (OpOk.yes (ok_callF (SignF_con z (j := 1000)) rfl rfl bd Tryz.func131 rfl rfl (.cons rfl ⟨rfl, raw_int hz1 hz2 hzl⟩ .nil) rfl) rfl rfl rfl) ?_
    refine RV.step1 (OpOk.yes (ok_move (.inl rfl) rfl bd rfl) rfl rfl rfl) ?_
    refine RV.step1 (OpOk.yes (ok_idxL (k := none) (i := 0) (ziV_at hpos) u_ints sz_i64 (by decide) rfl rfl bd rfl rfl) rfl rfl rfl) ?_
    refine RV.step1 (OpOk.yes (ok_loadP ty_i64 (by decide) rfl rfl bd rfl) rfl rfl rfl) ?_
    refine RV.step1 (OpOk.yes (ok_neq rfl rfl bd rfl rfl) rfl rfl rfl) ?_
    refine p1 (ok_pickF rfl rfl bd rfl rfl rfl) ?_
    refine RV.drawn (by kernel_rfl) ?_
    refine CV.cond rfl (fun hs => ?_) (fun hs => ?_)
    ·refine sr rfl ?_
     refine p1 (ok_buildI rfl rfl bd) ?_
     refine p1 (ok_store rfl rfl rfl rfl rfl rfl rfl (ty_int).2 rfl rfl rfl rfl) ?_
     refine xn ?_
     refine xn ?_
     refine RV.done ?_
     refine CV.ret ?_
     exact fin3 rfl (.inr rfl) ⟨_, _, _, _, _, rfl, rfl, rfl, ty_int⟩ rfl rfl (is_decz (decI_bad hq he0 (dec_diff hz2 (fun y h => by rw [hz1, ← h, decide_eq_decide]; exact (cmp0 y).1.symm) (by simpa using hs))))
    ·refine CV.skip ?_
     refine sr rfl ?_
     refine p1 (ok_fieldAddr fa_int0 rfl rfl bd rfl) ?_
     refine p1 (ok_loadf 0 fld_rawneg rfl rfl bd rfl rfl rfl rfl ty_bool) ?_
     refine p1 (ok_fieldAddr fa_int1 rfl rfl bd rfl) ?_
     refine p1 (ok_loadf 1 fld_rawdig rfl rfl bd rfl rfl rfl rfl ty_ints) ?_
     refine xd rfl (signed_con (decide (l.getD 0 0 < 0)) (dig z.natAbs) 1000 (dig_Dig _) (by rw [val_dig, ← hz1, mk_self]; exact hzl)) Tryz.func127 (.cons rfl Conv.any (.cons rfl ⟨rfl, zi_dl hz2⟩ .nil)) hfr ?_
     refine xm ?_
     refine p1 (ok_store rfl rfl rfl rfl rfl rfl rfl (ty_int).2 rfl rfl rfl rfl) ?_
     refine xn ?_
     refine xn ?_
     refine RV.done ?_
     refine CV.ret ?_
     have hd := decI_ok hq he0 (dec_same hne hz2 (by simpa using hs))
     exact fin3 rfl (.inr rfl) ⟨_, _, _, _, _, rfl, rfl, rfl, ty_int⟩ rfl rfl (fun L ρ w v h => is_dec hd L ρ w v (by rw [val_dig, ← hz1, mk_self] at h; exact h))
theorem rDecode_con : Con Tryz.prog 138 [ZI .u8 bs] (.tup [.d (Dm.int (decI bs).1 1000), .v (.int .i64 ((decI bs).2.1 : Nat)), .v (.int .i64 (decI bs).2.2)]) := by
 have hlen := decList_len hb
 rcases hq : W.decList W.dec 1 bs with ⟨l, u, e⟩
 rw [hq] at hlen
 simp only at hlen
 refine Con.of (n := 43) Tryz.func138 rfl rfl rfl rfl rfl fun cx hfr => ?_
 refine sr rfl ?_
 refine p2 (ok_alloc (i := 0) rfl rfl bd zero_int rfl rfl rfl rfl) ?_
 refine xn ?_
 refine xn ?_
 refine RV.done (sr rfl ?_)
 refine xm ?_
 refine xd rfl (rGetInts_con bs hb (by omega) hq) Tryz.func157 (xa rfl) hfr ?_
 refine xm ?_
 refine p1 (ok_extract rfl rfl bd rfl rfl) ?_
 refine p1 (ok_extract rfl rfl bd rfl rfl) ?_
 refine p1 (ok_extract rfl rfl bd rfl rfl) ?_
 refine xn ?_
 refine xn ?_
 refine xn ?_
 refine RV.done ?_
 refine CV.seq ?_
 refine sr rfl ?_
 refine xm ?_
 refine p1 (ok_neq rfl rfl bd rfl rfl) ?_
 refine RV.done ?_
 refine CV.cond rfl (fun he => ?_) (fun he => ?_)
 ·refine sr rfl ?_
  refine p1 (ok_buildI rfl rfl bd) ?_
  refine xm ?_
  refine p1 (ok_store rfl rfl rfl rfl rfl rfl rfl (ty_int).2 rfl rfl rfl rfl) ?_
  refine xn ?_
  refine xn ?_
  refine RV.done ?_
  refine CV.ret ?_
  exact fin3 rfl (.inr rfl) ⟨_, _, _, _, _, rfl, rfl, rfl, ty_int⟩ rfl rfl (is_decz (decI_err hq (by simpa using he)))
 ·refine CV.skip ?_
  refine CV.seq ?_
  refine sr rfl ?_
  refine xm ?_
  refine p1 (ok_lenL (ziV_length _) u_ints rfl rfl bd rfl) ?_
  refine p1 (ok_eql rfl rfl bd rfl rfl) ?_
  refine RV.done ?_
  refine CV.cond rfl (fun hn => ?_) (fun hn => ?_)
  ·refine sr rfl ?_
   refine p1 (ok_buildI rfl rfl bd) ?_
   refine p1 (ok_store rfl rfl rfl rfl rfl rfl rfl (ty_int).2 rfl rfl rfl rfl) ?_
   refine xn ?_
   refine xn ?_
   refine RV.done ?_
   refine CV.ret ?_
   have hne : l = [] := (by simpa using hn)
   exact fin3 rfl (.inr rfl) ⟨_, _, _, _, _, rfl, rfl, rfl, ty_int⟩ rfl rfl (is_decz (decI_bad hq (by simpa using he) (by rw [hne]; exact fun h => nomatch h)))
  ·have hne : l ≠ [] := (by rintro rfl; simp at hn)
   have hpos : 0 < l.length := List.length_pos_iff.2 hne
   have he0 : e = 0 := (by simpa using he)
   refine CV.skip ?_
   refine CV.seq ?_
   refine CV.region rfl (fun _ => by kernel_rfl) ?_
   refine xm ?_
   refine p1 (ok_idxL (k := none) (i := 0) (ziV_at hpos) u_ints sz_i64 (by decide) rfl rfl bd rfl rfl) ?_
   refine p1 (ok_loadP ty_i64 (by decide) rfl rfl bd rfl) ?_
   refine p1 (ok_eqlB rfl rfl rfl bd rfl rfl) ?_
   refine xm ?_
   refine p1 (ok_cutL (k := none) (l' := ziV .i64 (l.drop 1)) (some 1) none none (by show ((ziV .i64 l).take (ziV .i64 l).length).drop 1 = _; rw [List.take_length, ziV_drop]) (by decide) (by rw [ziV_length]; exact hpos) (Nat.le_refl _) (Nat.le_refl _) (fun _ => rfl) u_ints sz_i64 rfl rfl bd rfl rfl trivial trivial) ?_
   refine p1 (ok_braw rfl rfl bd rfl rfl) ?_
   refine p2 (ok_alloc (i := 1) rfl rfl bd zero_int rfl rfl rfl rfl) ?_
   refine p1 (ok_store rfl rfl rfl rfl rfl rfl rfl (ty_int).2 rfl rfl rfl rfl) ?_
   refine RV.drawn (by kernel_rfl) ?_
   refine CV.seq ?_
   refine sr rfl ?_
   refine p1 (ok_load rfl rfl bd rfl rfl rfl ty_int) ?_
   refine xc (rVRaw_con _ _ _ rfl) Tryz.func107 (xa rfl) hfr ?_
   refine p1 (ok_not rfl rfl bd rfl) ?_
   refine RV.done ?_
   refine CV.cond rfl (fun hv => ?_) (fun hv => ?_)
   ·refine sr rfl ?_
    refine p1 (ok_buildI rfl rfl bd) ?_
    refine p1 (ok_store rfl rfl rfl rfl rfl rfl rfl (ty_int).2 rfl rfl rfl rfl) ?_
    refine xn ?_
    refine xn ?_
    refine RV.done ?_
    refine CV.ret ?_
    exact fin3 rfl (.inr rfl) ⟨_, _, _, _, _, rfl, rfl, rfl, ty_int⟩ rfl rfl (is_decz (decI_bad hq he0 (dec_bad (b := (l.getD 0 0 == -1)) (by simpa using hv) (fun z h => by rw [← h, Bool.eq_iff_iff, decide_eq_true_eq, beq_iff_eq]; exact (cmp0 z).2.symm))))
   ·obtain ⟨z, hz1, hz2⟩ := valid_int (b := (l.getD 0 0 == -1)) (zs := l.drop 1) (by simpa using hv)
    have hzl : len z ≤ 1000 := (by have := congrArg List.length hz2; rw [List.length_map, List.length_drop] at this; show (dig z.natAbs).length ≤ _; omega)
    refine CV.skip ?_
    refine CV.seq ?_
    refine CV.seq ?_
    refine CV.region rfl (fun _ => by kernel_rfl) ?_
    refine p1 (ok_load rfl rfl bd rfl rfl rfl ty_int) ?_
    refine p1 (ok_callF (rSignF_con z (j := 1000)) rfl rfl bd Tryz.func110 rfl rfl (.cons rfl ⟨rfl, raw_int hz1 hz2 hzl⟩ .nil) rfl) ?_
    refine xm ?_
    refine p1 (ok_idxL (k := none) (i := 0) (ziV_at hpos) u_ints sz_i64 (by decide) rfl rfl bd rfl rfl) ?_
    refine p1 (ok_loadP ty_i64 (by decide) rfl rfl bd rfl) ?_
    refine p1 (ok_neq rfl rfl bd rfl rfl) ?_
    refine RV.drawn (by kernel_rfl) ?_
    refine CV.cond rfl (fun hs => ?_) (fun hs => ?_)
    ·refine sr rfl ?_
     refine p1 (ok_buildI rfl rfl bd) ?_
     refine p1 (ok_store rfl rfl rfl rfl rfl rfl rfl (ty_int).2 rfl rfl rfl rfl) ?_
     refine xn ?_
     refine xn ?_
     refine RV.done ?_
     refine CV.ret ?_
     exact fin3 rfl (.inr rfl) ⟨_, _, _, _, _, rfl, rfl, rfl, ty_int⟩ rfl rfl (is_decz (decI_bad hq he0 (dec_diff hz2 (fun y h => by rw [hz1, ← h, Bool.eq_iff_iff, decide_eq_true_eq, beq_iff_eq]; exact (cmp0 y).2.symm) (by simpa using hs))))
    ·refine CV.skip ?_
     refine sr rfl ?_
     refine p1 (ok_load rfl rfl bd rfl rfl rfl ty_int) ?_
     refine xm ?_
     refine p1 (ok_store rfl rfl rfl rfl rfl rfl rfl (ty_int).2 rfl rfl rfl rfl) ?_
     refine xn ?_
     refine xn ?_
     refine RV.done ?_
     refine CV.ret ?_
     have hd := decI_ok hq he0 (dec_same hne hz2 (by simpa using hs))
     exact fin3 rfl (.inr rfl) ⟨_, _, _, _, _, rfl, rfl, rfl, ty_int⟩ rfl rfl (fun L ρ w v h => is_dec hd L ρ w v (is_tri (raw_int hz1 hz2 hzl) rfl rfl L ρ w v h))
end
/-! Few, Short, Around; a text's and a code's way back. -/
def aroundN (n : Int) (m : Nat) : Nat := (if n < 0 then -(n + 1) else n).toNat % m
theorem AroundN_con (n : Int) (m : Nat) (hm : 0 < m) (hm2 : m ≤ 1000000) (h1 : -9223372036854775808 ≤ n) (h2 : n ≤ 9223372036854775807) : Con (D := Dm) Tryz.prog 11 [.v (.int .i64 n), .v (.int .i64 (m : Int))] (.one (.v (.int .i64 ((aroundN n m : Nat) : Int)))) := by
 refine Con.of (n := 13) Tryz.func11 rfl rfl rfl rfl rfl fun cx hfr => ?_
 refine sr rfl ?_
 refine xn ?_
 refine RV.done ?_
 refine CV.seq ?_
 refine sr rfl ?_
 refine xm ?_
 refine p1 (ok_lss rfl rfl bd rfl rfl) ?_
 refine RV.done ?_
 refine CV.cond rfl (fun hc => ?_) (fun hc => ?_)
 ·refine CV.region rfl (fun h => nomatch h) ?_
  refine xm ?_
  refine p1 (ok_add (c := n + 1) (by rw [wrapI (by omega) (by have : n < 0 := (by simpa using hc); omega)]) rfl rfl bd rfl rfl) ?_
  refine p1 (ok_neg (c := -(n + 1)) (by rw [wrapI (by have : n < 0 := (by simpa using hc); omega) (by have : n < 0 := (by simpa using hc); omega)]; omega) rfl rfl bd rfl) ?_
  refine xn ?_
  refine RV.done (sr rfl ?_)
  refine xm ?_
  refine xm ?_
  refine p1 (ok_remC (c := ((aroundN n m : Nat) : Int)) (by omega) (by unfold aroundN; have hc' := hc; simp at hc'; rw [Int.tmod_eq_emod_of_nonneg (by omega)]; first | rw [if_pos (by omega), Int.natCast_emod, Int.toNat_of_nonneg (by omega)] | rw [if_neg (by omega), Int.natCast_emod, Int.toNat_of_nonneg (by omega)]) rfl rfl bd rfl rfl) ?_
  refine xn ?_
  refine RV.done ?_
  refine CV.ret ?_
  exact fin1 rfl (.inr rfl) rfl is_rfl
 ·refine CV.skip ?_
  refine sr rfl ?_
  refine xm ?_
  refine xm ?_
  refine p1 (ok_remC (c := ((aroundN n m : Nat) : Int)) (by omega) (by unfold aroundN; have hc' := hc; simp at hc'; rw [Int.tmod_eq_emod_of_nonneg (by omega)]; first | rw [if_pos (by omega), Int.natCast_emod, Int.toNat_of_nonneg (by omega)] | rw [if_neg (by omega), Int.natCast_emod, Int.toNat_of_nonneg (by omega)]) rfl rfl bd rfl rfl) ?_
  refine xn ?_
  refine RV.done ?_
  refine CV.ret ?_
  exact fin1 rfl (.inr rfl) rfl is_rfl
theorem SameBT_con (a : List Int) (ha : a.length ≤ 1000000000000) : Con Tryz.prog 47 [ZI .u8 a, ZI .u8 a] (.one (.v (.bool true))) := by
 have q := SameB_con a a ha
 rwa [decide_eq_true (rfl : a = a)] at q
theorem lst_eqv {k : Option Nat} {l l' : List (SA Dm)} (h : l = l') : ∀ L ρ w v, (SA.d (Dm.gen (lstG k l))).is L ρ w v → (SA.d (Dm.gen (lstG k l'))).is L ρ w v := by subst h; exact fun _ _ _ _ h => h
def zbV (ls : List (List Int)) : List (SA Dm) := ls.map fun l => ZI .u8 l
theorem zbV_at {ls : List (List Int)} {i : Nat} (h : i < ls.length) : (zbV ls)[i]? = some (ZI .u8 (ls.getD i [])) := by
 simp [zbV, List.getElem?_eq_getElem h, List.getD_eq_getElem?_getD]
theorem zbV_kind {ls : List (List Int)} : ∀ s ∈ zbV ls, s.kind = some none := by
 intro s hs
 obtain ⟨b, _, rfl⟩ := List.mem_map.1 hs
 rfl
theorem u_lbytes : Tryz.prog.underlying 58 = some (.slice 55) := by kernel_rfl
theorem sz_bytes : (Tryz.prog.info? 55).map (·.size) = some 1 := by kernel_rfl
theorem zs_bytes : (Tryz.prog.info? 55).map (fun i => (i.size, i.zero)) = some (1, some (.slice none 0 0)) := by kernel_rfl
theorem ziV_set (u : List Int) (i : Nat) (b : Int) : (ziV .u8 u).set i (.v (.int .u8 b)) = ziV .u8 (u.set i b) := by simp [ziV, List.map_set]
theorem bs_set {u : List Int} (h : W.Bs u) (i : Nat) {b : Int} (hb : 0 ≤ b ∧ b ≤ 255) : W.Bs (u.set i b) := fun x hx => by
 rcases List.mem_or_eq_of_mem_set hx with hx | rfl
 ·exact h x hx
 ·exact hb
section
variable (l : List Int) (s : List UInt8) (b : List Int) (p : Int) (c : UInt8) (x : Int) (hx : numI l 0 = x) (hb : W.Bs b) (hp1 : -9223372036854775808 ≤ p) (hp2 : p ≤ 9223372036854775807)
include hx hb hp1 hp2
end
/-! Equal fractions of any two integers. -/
/-! Texts. -/
section
variable (l : List UInt8)
end
/-! Codes. -/
theorem rfEncode_con (a : Rat) (k : Nat) (hp : len a.num ≤ 1000000000) (hq : len (qd a) ≤ 1000000000) (h1 : (encI a.num).length + (encI (qd a)).length ≤ 1000000000000) : ConRow Tryz.prog 97 [RT a k] 5 none (ziV .u8 (encR a)) := by
 refine ConRow.of (n := 10) Tryz.func97 rfl rfl rfl rfl (ziV_vals _) fun cx hB => ?_
 refine sr rfl ?_
 refine p2 (ok_box (i := 0) rfl rfl bd rfl rfl rfl rfl rfl) ?_
 refine xn ?_
 refine RV.done ?_
 refine CV.seq ?_
 refine CV.region rfl (fun _ => by kernel_rfl) ?_
 refine p1 (ok_fieldAddr fa_rat0 rfl rfl bd rfl) ?_
 refine p1 (ok_loadf 0 fld_num rfl rfl bd rfl rfl rfl rfl ty_int) ?_
 refine RV.step3 (OpOk.plain (ok_callRow (r := 5) (rEncode_con _ _ hp) (ziV_vals _) rfl rfl bd Tryz.func135 rfl rfl (xa rfl) rfl rfl rfl) rfl) ?_
 refine p1 (ok_fieldAddr fa_rat1 rfl rfl bd rfl) ?_
 refine p1 (ok_loadf 2 fld_den rfl rfl bd rfl rfl rfl rfl ty_int) ?_
 refine p1 (ok_callRowD (G := Dm.gen (lstG none (ziV .u8 (encI (qd a))))) (rEncode_con _ _ hq) (ziV_vals _) (lstG_Lst none _) (lstG_Lst0 none _) rfl rfl bd Tryz.func135 rfl rfl (xa rfl)) ?_
 refine RV.step4 (OpOk.plain (ok_appendN (r := 5) (r' := 9) (k := none) (lst_elems (by decide) (ziV_ptrs _)) (by rw [ziV_length, ziV_length]; omega) (by rw [ziV_length, ziV_length]; omega) u_bytes inf_u8 rfl rfl (by rw [ziV_length]) rfl rfl bd rfl rfl rfl rfl rfl rfl rfl) rfl) ?_
 refine xn ?_
 refine RV.drawn (by kernel_rfl) ?_
 refine CV.ret ?_
 exact finRow (ziV_append _ _) (by rw [ziV_length, ziV_length, ziV_length]; show _ = (encI a.num ++ encI (qd a)).length; rw [List.length_append]) rfl (.inr rfl) rfl rfl
theorem is_decQ {bs : List Int} {p q : Int} {u : Nat} {e : Int} {k : Nat} (h : decQ bs = (p, q, u, e)) : ∀ L ρ w v, (AV.tup [.d (Dm.rt p q k), .v (.int .i64 (u : Int)), .v (.int .i64 e)]).is L ρ w v → (AV.tup [.d (Dm.rt (decQ bs).1 (decQ bs).2.1 k), .v (.int .i64 ((decQ bs).2.2.1 : Nat)), .v (.int .i64 (decQ bs).2.2.2)]).is L ρ w v := by
 rw [h]
 exact fun _ _ _ _ h => h
theorem is_decQz {bs : List Int} {e : Int} {j k : Nat} (hj : j ≤ k) (h : decQ bs = (0, 0, 0, e)) : ∀ L ρ w v, (AV.tup [.d (Dm.rt 0 0 j), .v (.int .i64 0), .v (.int .i64 e)]).is L ρ w v → (AV.tup [.d (Dm.rt (decQ bs).1 (decQ bs).2.1 k), .v (.int .i64 ((decQ bs).2.2.1 : Nat)), .v (.int .i64 (decQ bs).2.2.2)]).is L ρ w v := by
 rw [h]
 exact is_tri (is_rt rfl rfl hj) rfl rfl
section
variable (bs : List Int) (hb : W.Bs bs) (hl : bs.length ≤ 1000)
include hb hl
theorem RDecode_con : Con Tryz.prog 99 [ZI .u8 bs] (.tup [.d (Dm.rt (decQ bs).1 (decQ bs).2.1 1000), .v (.int .i64 ((decQ bs).2.2.1 : Nat)), .v (.int .i64 (decQ bs).2.2.2)]) := by
 have hbd := decI_bd hb
 obtain ⟨p, m, e, hd⟩ : ∃ p m e, decI bs = (p, m, e) := ⟨_, _, _, rfl⟩
 obtain ⟨q, u, f, hd2⟩ : ∃ q u f, decI (bs.drop m) = (q, u, f) := ⟨_, _, _, rfl⟩
 rw [hd] at hbd
 simp only at hbd
 have hbd2 := decI_bd (hb.drop m)
 rw [hd2, List.length_drop] at hbd2
 simp only at hbd2
 have hq : decQ bs = (if e ≠ 0 then (0, 0, 0, e) else if f ≠ 0 then (0, 0, 0, f) else if q = 0 ∨ (0 ≤ q ∧ q ≠ 1 ∧ Int.gcd p q = 1) then (p, q, m + u, 0) else (0, 0, 0, 2)) := by unfold decQ; rw [hd]; simp only; rw [hd2]
 refine Con.of (n := 44) Tryz.func99 rfl rfl rfl rfl rfl fun cx hfr => ?_
 refine sr rfl ?_
 refine p2 (ok_alloc (i := 0) rfl rfl bd zero_rat rfl rfl rfl rfl) ?_
 refine xn ?_
 refine xn ?_
 refine RV.done (sr rfl ?_)
 refine xm ?_
 refine xc ((show Con Tryz.prog _ _ (.tup [.d (Dm.int p 1000), .v (.int .i64 (m : Int)), .v (.int .i64 e)]) from by have q := Decode_con bs hb hl; rw [hd] at q; exact q)) Tryz.func137 (xa rfl) hfr ?_
 refine xm ?_
 refine p1 (ok_extract rfl rfl bd rfl rfl) ?_
 refine p1 (ok_extract rfl rfl bd rfl rfl) ?_
 refine p1 (ok_extract rfl rfl bd rfl rfl) ?_
 refine p2 (ok_alloc (i := 1) rfl rfl bd zero_int rfl rfl rfl rfl) ?_
 refine p1 (ok_store rfl rfl rfl rfl rfl rfl rfl (ty_int).2 rfl rfl rfl rfl) ?_
 refine xn ?_
 refine xn ?_
 refine RV.done ?_
 refine CV.seq ?_
 refine sr rfl ?_
 refine xm ?_
 refine p1 (ok_neq rfl rfl bd rfl rfl) ?_
 refine RV.done ?_
 refine CV.cond rfl (fun h1 => ?_) (fun h1 => ?_)
 ·refine sr rfl ?_
  refine p1 (ok_build0 rfl rfl bd) ?_
  refine xm ?_
  refine p1 (ok_store rfl rfl rfl rfl rfl rfl rfl (ty_rat).2 rfl rfl rfl rfl) ?_
  refine xn ?_
  refine xn ?_
  refine RV.done ?_
  refine CV.ret ?_
  have g1 : e ≠ 0 := (by simpa using h1)
  rw [if_pos g1] at hq
  exact fin3 rfl (.inr rfl) ⟨_, _, _, _, _, rfl, rfl, rfl, ty_rat⟩ rfl rfl (is_decQz (by omega) hq)
 ·refine CV.skip ?_
  refine sr rfl ?_
  refine xm ?_
  refine xm ?_
  refine p1 (ok_cutL (k := none) (l' := ziV .u8 (bs.drop m)) (some m) none none (by show ((ziV .u8 bs).take (ziV .u8 bs).length).drop m = _; rw [List.take_length, ziV_drop]) (by decide) (by rw [ziV_length]; exact hbd.2) (Nat.le_refl _) (Nat.le_refl _) (fun _ => rfl) u_bytes sz_u8 rfl rfl bd rfl rfl trivial trivial) ?_
  refine xd rfl ((show Con Tryz.prog _ _ (.tup [.d (Dm.int q 1000), .v (.int .i64 (u : Int)), .v (.int .i64 f)]) from by have q := Decode_con (bs.drop m) (hb.drop m) (by rw [List.length_drop]; omega); rw [hd2] at q; exact q)) Tryz.func137 (xa rfl) hfr ?_
  refine xm ?_
  refine p1 (ok_extract rfl rfl bd rfl rfl) ?_
  refine p1 (ok_extract rfl rfl bd rfl rfl) ?_
  refine p1 (ok_extract rfl rfl bd rfl rfl) ?_
  refine p2 (ok_alloc (i := 2) rfl rfl bd zero_int rfl rfl rfl rfl) ?_
  refine p1 (ok_store rfl rfl rfl rfl rfl rfl rfl (ty_int).2 rfl rfl rfl rfl) ?_
  refine xn ?_
  refine xn ?_
  refine RV.done ?_
  refine CV.seq ?_
  refine sr rfl ?_
  refine xm ?_
  refine p1 (ok_neq rfl rfl bd rfl rfl) ?_
  refine RV.done ?_
  refine CV.cond rfl (fun h2 => ?_) (fun h2 => ?_)
  ·refine sr rfl ?_
   refine p1 (ok_build0 rfl rfl bd) ?_
   refine xm ?_
   refine p1 (ok_store rfl rfl rfl rfl rfl rfl rfl (ty_rat).2 rfl rfl rfl rfl) ?_
   refine xn ?_
   refine xn ?_
   refine RV.done ?_
   refine CV.ret ?_
   have g1 : ¬ e ≠ 0 := (by simpa using h1)
   have g2 : f ≠ 0 := (by simpa using h2)
   rw [if_neg g1, if_pos g2] at hq
   exact fin3 rfl (.inr rfl) ⟨_, _, _, _, _, rfl, rfl, rfl, ty_rat⟩ rfl rfl (is_decQz (by omega) hq)
  ·refine CV.skip ?_
   refine sr rfl ?_
   refine p1 (ok_load rfl rfl bd rfl rfl rfl ty_int) ?_
   refine p1 (ok_load rfl rfl bd rfl rfl rfl ty_int) ?_
   refine p1 (ok_build2 rfl rfl bd rfl rfl) ?_
   refine p2 (ok_alloc (i := 3) rfl rfl bd zero_rat rfl rfl rfl rfl) ?_
   refine p1 (ok_store rfl rfl rfl rfl rfl rfl rfl (ty_rat).2 rfl rfl rfl rfl) ?_
   refine RV.done ?_
   refine CV.seq ?_
   refine sr rfl ?_
   refine p1 (ok_load rfl rfl bd rfl rfl rfl ty_rat) ?_
   refine xd rfl (RValidG_con _ _ _ (by decide)) Tryz.func56 (xa rfl) hfr ?_
   refine p1 (ok_not rfl rfl bd rfl) ?_
   refine RV.done ?_
   refine CV.cond rfl (fun h3 => ?_) (fun h3 => ?_)
   ·refine sr rfl ?_
    refine p1 (ok_build0 rfl rfl bd) ?_
    refine p1 (ok_store rfl rfl rfl rfl rfl rfl rfl (ty_rat).2 rfl rfl rfl rfl) ?_
    refine xn ?_
    refine xn ?_
    refine RV.done ?_
    refine CV.ret ?_
    have g1 : ¬ e ≠ 0 := (by simpa using h1)
    have g2 : ¬ f ≠ 0 := (by simpa using h2)
    have g3 : ¬ (q = 0 ∨ (0 ≤ q ∧ q ≠ 1 ∧ Int.gcd p q = 1)) := (by intro h; rw [decide_eq_true h] at h3; cases h3)
    rw [if_neg g1, if_neg g2, if_neg g3] at hq
    exact fin3 rfl (.inr rfl) ⟨_, _, _, _, _, rfl, rfl, rfl, ty_rat⟩ rfl rfl (is_decQz (by omega) hq)
   ·refine CV.skip ?_
    refine sr rfl ?_
    refine p1 (ok_load rfl rfl bd rfl rfl rfl ty_rat) ?_
    refine xm ?_
    refine xm ?_
    refine p1 (ok_add (c := ((m + u : Nat) : Int)) (by rw [wrapI (by omega) (by omega)]; omega) rfl rfl bd rfl rfl) ?_
    refine p1 (ok_store rfl rfl rfl rfl rfl rfl rfl (ty_rat).2 rfl rfl rfl rfl) ?_
    refine xn ?_
    refine xn ?_
    refine RV.done ?_
    refine CV.ret ?_
    have g1 : ¬ e ≠ 0 := (by simpa using h1)
    have g2 : ¬ f ≠ 0 := (by simpa using h2)
    have g3 : (q = 0 ∨ (0 ≤ q ∧ q ≠ 1 ∧ Int.gcd p q = 1)) := (by refine Decidable.byContradiction fun h => ?_; rw [decide_eq_false h] at h3; cases h3)
    rw [if_neg g1, if_neg g2, if_pos g3] at hq
    exact fin3 rfl (.inr rfl) ⟨_, _, _, _, _, rfl, rfl, rfl, ty_rat⟩ rfl rfl (is_decQ hq)
theorem rfDecode_con : Con Tryz.prog 101 [ZI .u8 bs] (.tup [.d (Dm.rt (decQ bs).1 (decQ bs).2.1 1000), .v (.int .i64 ((decQ bs).2.2.1 : Nat)), .v (.int .i64 (decQ bs).2.2.2)]) := by
 have hbd := decI_bd hb
 obtain ⟨p, m, e, hd⟩ : ∃ p m e, decI bs = (p, m, e) := ⟨_, _, _, rfl⟩
 obtain ⟨q, u, f, hd2⟩ : ∃ q u f, decI (bs.drop m) = (q, u, f) := ⟨_, _, _, rfl⟩
 rw [hd] at hbd
 simp only at hbd
 have hbd2 := decI_bd (hb.drop m)
 rw [hd2, List.length_drop] at hbd2
 simp only at hbd2
 have hq : decQ bs = (if e ≠ 0 then (0, 0, 0, e) else if f ≠ 0 then (0, 0, 0, f) else if q = 0 ∨ (0 ≤ q ∧ q ≠ 1 ∧ Int.gcd p q = 1) then (p, q, m + u, 0) else (0, 0, 0, 2)) := by unfold decQ; rw [hd]; simp only; rw [hd2]
 refine Con.of (n := 45) Tryz.func101 rfl rfl rfl rfl rfl fun cx hfr => ?_
 refine sr rfl ?_
 refine p2 (ok_alloc (i := 0) rfl rfl bd zero_rat rfl rfl rfl rfl) ?_
 refine xn ?_
 refine xn ?_
 refine RV.done (sr rfl ?_)
 refine xm ?_
 refine xc ((show Con Tryz.prog _ _ (.tup [.d (Dm.int p 1000), .v (.int .i64 (m : Int)), .v (.int .i64 e)]) from by have q := rDecode_con bs hb hl; rw [hd] at q; exact q)) Tryz.func138 (xa rfl) hfr ?_
 refine xm ?_
 refine p1 (ok_extract rfl rfl bd rfl rfl) ?_
 refine p1 (ok_extract rfl rfl bd rfl rfl) ?_
 refine p1 (ok_extract rfl rfl bd rfl rfl) ?_
 refine p2 (ok_alloc (i := 1) rfl rfl bd zero_int rfl rfl rfl rfl) ?_
 refine p1 (ok_store rfl rfl rfl rfl rfl rfl rfl (ty_int).2 rfl rfl rfl rfl) ?_
 refine xn ?_
 refine xn ?_
 refine RV.done ?_
 refine CV.seq ?_
 refine sr rfl ?_
 refine xm ?_
 refine p1 (ok_neq rfl rfl bd rfl rfl) ?_
 refine RV.done ?_
 refine CV.cond rfl (fun h1 => ?_) (fun h1 => ?_)
 ·refine sr rfl ?_
  refine p1 (ok_build0 rfl rfl bd) ?_
  refine xm ?_
  refine p1 (ok_store rfl rfl rfl rfl rfl rfl rfl (ty_rat).2 rfl rfl rfl rfl) ?_
  refine xn ?_
  refine xn ?_
  refine RV.done ?_
  refine CV.ret ?_
  have g1 : e ≠ 0 := (by simpa using h1)
  rw [if_pos g1] at hq
  exact fin3 rfl (.inr rfl) ⟨_, _, _, _, _, rfl, rfl, rfl, ty_rat⟩ rfl rfl (is_decQz (by omega) hq)
 ·refine CV.skip ?_
  refine sr rfl ?_
  refine xm ?_
  refine xm ?_
  refine p1 (ok_cutL (k := none) (l' := ziV .u8 (bs.drop m)) (some m) none none (by show ((ziV .u8 bs).take (ziV .u8 bs).length).drop m = _; rw [List.take_length, ziV_drop]) (by decide) (by rw [ziV_length]; exact hbd.2) (Nat.le_refl _) (Nat.le_refl _) (fun _ => rfl) u_bytes sz_u8 rfl rfl bd rfl rfl trivial trivial) ?_
  refine xd rfl ((show Con Tryz.prog _ _ (.tup [.d (Dm.int q 1000), .v (.int .i64 (u : Int)), .v (.int .i64 f)]) from by have q := rDecode_con (bs.drop m) (hb.drop m) (by rw [List.length_drop]; omega); rw [hd2] at q; exact q)) Tryz.func138 (xa rfl) hfr ?_
  refine xm ?_
  refine p1 (ok_extract rfl rfl bd rfl rfl) ?_
  refine p1 (ok_extract rfl rfl bd rfl rfl) ?_
  refine p1 (ok_extract rfl rfl bd rfl rfl) ?_
  refine p2 (ok_alloc (i := 2) rfl rfl bd zero_int rfl rfl rfl rfl) ?_
  refine p1 (ok_store rfl rfl rfl rfl rfl rfl rfl (ty_int).2 rfl rfl rfl rfl) ?_
  refine xn ?_
  refine xn ?_
  refine RV.done ?_
  refine CV.seq ?_
  refine sr rfl ?_
  refine xm ?_
  refine p1 (ok_neq rfl rfl bd rfl rfl) ?_
  refine RV.done ?_
  refine CV.cond rfl (fun h2 => ?_) (fun h2 => ?_)
  ·refine sr rfl ?_
   refine p1 (ok_build0 rfl rfl bd) ?_
   refine xm ?_
   refine p1 (ok_store rfl rfl rfl rfl rfl rfl rfl (ty_rat).2 rfl rfl rfl rfl) ?_
   refine xn ?_
   refine xn ?_
   refine RV.done ?_
   refine CV.ret ?_
   have g1 : ¬ e ≠ 0 := (by simpa using h1)
   have g2 : f ≠ 0 := (by simpa using h2)
   rw [if_neg g1, if_pos g2] at hq
   exact fin3 rfl (.inr rfl) ⟨_, _, _, _, _, rfl, rfl, rfl, ty_rat⟩ rfl rfl (is_decQz (by omega) hq)
  ·refine CV.skip ?_
   refine sr rfl ?_
   refine p1 (ok_load rfl rfl bd rfl rfl rfl ty_int) ?_
   refine p1 (ok_load rfl rfl bd rfl rfl rfl ty_int) ?_
   refine p1 (ok_build2 rfl rfl bd rfl rfl) ?_
   refine p2 (ok_alloc (i := 3) rfl rfl bd zero_rat rfl rfl rfl rfl) ?_
   refine p1 (ok_store rfl rfl rfl rfl rfl rfl rfl (ty_rat).2 rfl rfl rfl rfl) ?_
   refine RV.done ?_
   refine CV.seq ?_
   refine sr rfl ?_
   refine p1 (ok_load rfl rfl bd rfl rfl rfl ty_rat) ?_
   refine xd rfl (rfValidG_con _ _ _ (by decide)) Tryz.func58 (xa rfl) hfr ?_
   refine p1 (ok_not rfl rfl bd rfl) ?_
   refine RV.done ?_
   refine CV.cond rfl (fun h3 => ?_) (fun h3 => ?_)
   ·refine sr rfl ?_
    refine p1 (ok_build0 rfl rfl bd) ?_
    refine p1 (ok_store rfl rfl rfl rfl rfl rfl rfl (ty_rat).2 rfl rfl rfl rfl) ?_
    refine xn ?_
    refine xn ?_
    refine RV.done ?_
    refine CV.ret ?_
    have g1 : ¬ e ≠ 0 := (by simpa using h1)
    have g2 : ¬ f ≠ 0 := (by simpa using h2)
    have g3 : ¬ (q = 0 ∨ (0 ≤ q ∧ q ≠ 1 ∧ Int.gcd p q = 1)) := (by intro h; rw [decide_eq_true h] at h3; cases h3)
    rw [if_neg g1, if_neg g2, if_neg g3] at hq
    exact fin3 rfl (.inr rfl) ⟨_, _, _, _, _, rfl, rfl, rfl, ty_rat⟩ rfl rfl (is_decQz (by omega) hq)
   ·refine CV.skip ?_
    refine sr rfl ?_
    refine p1 (ok_load rfl rfl bd rfl rfl rfl ty_rat) ?_
    refine xm ?_
    refine xm ?_
    refine p1 (ok_add (c := ((m + u : Nat) : Int)) (by rw [wrapI (by omega) (by omega)]; omega) rfl rfl bd rfl rfl) ?_
    refine p1 (ok_store rfl rfl rfl rfl rfl rfl rfl (ty_rat).2 rfl rfl rfl rfl) ?_
    refine xn ?_
    refine xn ?_
    refine RV.done ?_
    refine CV.ret ?_
    have g1 : ¬ e ≠ 0 := (by simpa using h1)
    have g2 : ¬ f ≠ 0 := (by simpa using h2)
    have g3 : (q = 0 ∨ (0 ≤ q ∧ q ≠ 1 ∧ Int.gcd p q = 1)) := (by refine Decidable.byContradiction fun h => ?_; rw [decide_eq_false h] at h3; cases h3)
    rw [if_neg g1, if_neg g2, if_pos g3] at hq
    exact fin3 rfl (.inr rfl) ⟨_, _, _, _, _, rfl, rfl, rfl, ty_rat⟩ rfl rfl (is_decQ hq)
end
end Vc
end Go.Proofs.YtcblbepaigdlgaaGreat
