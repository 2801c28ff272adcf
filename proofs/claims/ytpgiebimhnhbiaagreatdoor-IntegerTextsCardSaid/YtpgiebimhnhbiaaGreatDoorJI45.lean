/-
  Decode of package integer and of the reference, for any bytes.
  IntegerTexts: what the law calls besides, and the law's walk.
-/
import Derived.Test.YtpgiebimhnhbiaaGreatDoorJI12
import Derived.Test.YtpgiebimhnhbiaaGreatDoorJI44
import Derived.Test.YtpgiebimhnhbiaaGreatDoorJI17
import Derived.Test.YtpgiebimhnhbiaaGreatDoorJI22
import Derived.Test.YtpgiebimhnhbiaaGreatDoorJI42
set_option linter.unusedVariables false
set_option linter.unusedSimpArgs false
set_option linter.unusedSectionVars false
namespace Go.Proofs.YtpgiebimhnhbiaaGreatDoor
open Go.RowKit
open Go.Lib (hid)
open Dg Zn Tx
namespace Vc
set_option maxRecDepth 100000

theorem is_tri {s s' : SA Dm} {u u' t t' : Value} (h : ∀ L ρ w v, s.is L ρ w v → s'.is L ρ w v) (hu : u = u') (ht : t = t') : ∀ L ρ w v, (AV.tup [s, .v u, .v t]).is L ρ w v → (AV.tup [s', .v u', .v t']).is L ρ w v := by
 subst hu ht
 rintro L ρ w v ⟨vs, rfl, hall⟩
 match vs, hall with
 | [a, b, c], ⟨k1, k2, k3, _⟩ => exact ⟨[a, b, c], rfl, h _ _ _ _ k1, k2, k3, trivial⟩
theorem row_is {L : Nat → Prop} {ρ : Rho} {w : World} {v : Value} {zs : List Int} (h : Row .i64 w v zs) (hn : NoInt L w) : (ZI .i64 zs).is L ρ w v := by
 intro w' hag
 obtain ⟨ao, cap, h1, h2, h3, h4⟩ := h
 refine row_at ⟨ao, cap, h1, h2, h3, fun hl => ?_⟩
 obtain ⟨b, off, h5, h6⟩ := h4 hl
 exact ⟨b, off, h5, fun i hi => cell_agree hn hag (h6 i hi)⟩
theorem byte_view {w : World} {v : Value} {bs : List Int} (hb : W.Bs bs) (h : Row .u8 w v bs) : ByteView w v bs := by
 obtain ⟨ao, cap, h1, h2, h3, h4⟩ := h
 exact ⟨hb, ao, cap, h1, h2, h3, fun hne => h4 (List.length_pos_iff.2 hne)⟩
theorem map_flat (l : List Int) : l.map (Value.int .i64) = l.flatMap fun x => [Value.int .i64 x] := by
 induction l with
 | nil => rfl
 | cons a l ih => rw [List.map_cons, List.flatMap_cons, ih]; rfl
theorem listed_con {f : FuncId} {bs : List Int} {l : List Int} {u : Nat} {e : Int} (hq : W.decList W.dec 1 bs = (l, u, e)) (h : ∀ v w, Row .u8 w v bs → Calls Tryz.prog f #[v] w (Listed w 3 1 (fun x => [Value.int .i64 x]) (W.decList W.dec 1 bs))) :
  Con Tryz.prog f [ZI .u8 bs] (.tup [ZI .i64 l, .v (.int .i64 (u : Int)), .v (.int .i64 e)]) := by
 rintro L ρ w vs hlt hn hwf hall
 match vs, hall with
 | [v], ⟨h1, _⟩ =>
  refine (h v w (zi_row h1)).mono ?_
  rw [hq]
  rintro e w' ⟨hbel, x, rfl, hown⟩
  have hrow : Row .i64 w' x l := Row.of_owns (by rw [map_flat]; exact hown)
  exact ⟨_, rfl, hbel, ⟨[_, _, _], rfl, row_is hrow (noInt_below hn hlt hbel), rfl, rfl, trivial⟩⟩
theorem GetInts_con (bs : List Int) (hb : W.Bs bs) (hl : bs.length ≤ 1099511627776) {l : List Int} {u : Nat} {e : Int} (hq : W.decList W.dec 1 bs = (l, u, e)) : Con Tryz.prog 89 [ZI .u8 bs] (.tup [ZI .i64 l, .v (.int .i64 (u : Int)), .v (.int .i64 e)]) :=
 listed_con hq fun v w h => GetInts_any v bs w (byte_view hb h) hl
theorem rGetInts_con (bs : List Int) (hb : W.Bs bs) (hl : bs.length ≤ 1099511627776) {l : List Int} {u : Nat} {e : Int} (hq : W.decList W.dec 1 bs = (l, u, e)) : Con Tryz.prog 94 [ZI .u8 bs] (.tup [ZI .i64 l, .v (.int .i64 (u : Int)), .v (.int .i64 e)]) :=
 listed_con hq fun v w h => refGetInts_any v bs w (byte_view hb h) hl
theorem raw_cells {b : Bool} {zs : List Int} {w : World} {cs : List Value} (h : Dm.at (.gen (rawG b zs)) w (.agg cs.toArray)) : ∃ a n c, cs = [.bool b, .slice a n c] ∧ Row .i64 w (.slice a n c) zs := by
 obtain ⟨s, h1, h2⟩ := h
 obtain ⟨a, n, c, rfl⟩ := row_slice h2
 injection h1 with h1
 exact ⟨a, n, c, by simpa using congrArg Array.toList h1, h2⟩
theorem fld_rawneg {b : Bool} {zs : List Int} : Fld (Dm.gen (rawG b zs)) 0 none (.v (.bool b)) := by
 intro w cs h
 obtain ⟨a, n, c, rfl, hs⟩ := raw_cells h
 exact ⟨[], [_], [_], _, rfl, rfl, ⟨rfl, rfl⟩, rfl⟩
theorem fld_rawdig {b : Bool} {zs : List Int} : Fld (Dm.gen (rawG b zs)) 1 none (ZI .i64 zs) := by
 intro w cs h
 obtain ⟨a, n, c, rfl, hs⟩ := raw_cells h
 exact ⟨[_], [_], [], _, rfl, rfl, ⟨rfl, rfl⟩, row_at hs⟩
theorem raw_int {b : Bool} {zs : List Int} {z : Int} {k : Nat} (h1 : decide (z < 0) = b) (h2 : (dig z.natAbs).map Int.ofNat = zs) (hk : len z ≤ k) : ∀ L ρ w v, (SA.d (Dm.gen (rawG b zs))).is L ρ w v → (SA.d (Dm.int z k)).is L ρ w v := by
 subst h1 h2
 intro L ρ w v h w' hw
 obtain ⟨s, e, hs⟩ := h w' hw
 exact ⟨⟨s, e, nums_of_row hs⟩, hk⟩
theorem zi_dl {ds : List Nat} {zs : List Int} (h : ds.map Int.ofNat = zs) : ∀ L ρ w v, (ZI .i64 zs).is L ρ w v → (SA.d (Dm.dl ds)).is L ρ w v := by
 subst h
 intro L ρ w v h w' hw
 exact nums_of_row (row_of_at (h w' hw))
theorem cmp0 (z : Int) : (cmpI z 0 < 0 ↔ z < 0) ∧ (cmpI z 0 = -1 ↔ z < 0) := by
 unfold cmpI
 split
 ·simp; omega
 ·split
  ·simp; omega
  ·simp; omega
theorem dec_bad {l : List Int} {b : Bool} (hv : validI b (l.drop 1) = false) (hb : ∀ z, cmpI z 0 = l.getD 0 0 → decide (z < 0) = b) : ¬ row0 (zOf l) = l := by
 intro h
 have h1 : l.getD 0 0 = cmpI (zOf l) 0 := by rw [← h, zOf_row0]; rfl
 have h2 : l.drop 1 = (dig (zOf l).natAbs).map Int.ofNat := by
  conv => lhs; rw [← h]
  rfl
 rw [h2, ← hb _ h1.symm, valid_dig] at hv
 cases hv
theorem dec_diff {l : List Int} {z : Int} (hz : (dig z.natAbs).map Int.ofNat = l.drop 1) (hb : ∀ y, cmpI y 0 = l.getD 0 0 → decide (y < 0) = decide (z < 0)) (hs : ¬ cmpI z 0 = l.getD 0 0) : ¬ row0 (zOf l) = l := by
 intro h
 have h1 : l.getD 0 0 = cmpI (zOf l) 0 := by rw [← h, zOf_row0]; rfl
 have h2 : l.drop 1 = (dig (zOf l).natAbs).map Int.ofNat := by
  conv => lhs; rw [← h]
  rfl
 have h3 := hb _ h1.symm
 have h4 : dig z.natAbs = dig (zOf l).natAbs := (List.map_inj_right (fun x y e => by injection e)).1 (hz.trans h2)
 have h5 : z.natAbs = (zOf l).natAbs := by rw [← val_dig z.natAbs, h4, val_dig]
 have h6 : z = zOf l := by
  have : (zOf l < 0) ↔ (z < 0) := by simpa using h3
  omega
 rw [h1, ← h6] at hs
 exact hs rfl
theorem dec_same {l : List Int} {z : Int} (hne : l ≠ []) (hz : (dig z.natAbs).map Int.ofNat = l.drop 1) (hs : cmpI z 0 = l.getD 0 0) : row0 (zOf l) = l ∧ zOf l = z := by
 have e : l = row0 z := by
  unfold row0
  rw [hz, hs]
  cases l with
  | nil => exact absurd rfl hne
  | cons a l => rfl
 exact row0_inj e
theorem decI_err {bs l : List Int} {u : Nat} {e : Int} (hq : W.decList W.dec 1 bs = (l, u, e)) (h : e ≠ 0) : decI bs = (0, 0, e) := by
 unfold decI
 rw [hq, if_pos h]
theorem decI_bad {bs l : List Int} {u : Nat} {e : Int} (hq : W.decList W.dec 1 bs = (l, u, e)) (h0 : e = 0) (h : ¬ row0 (zOf l) = l) : decI bs = (0, 0, 2) := by
 subst h0
 unfold decI
 rw [hq, if_neg (by simp), if_neg h]
theorem decI_ok {bs l : List Int} {u : Nat} {e z : Int} (hq : W.decList W.dec 1 bs = (l, u, e)) (h0 : e = 0) (h : row0 (zOf l) = l ∧ zOf l = z) : decI bs = (z, u, 0) := by
 subst h0
 unfold decI
 rw [hq, if_neg (by simp)]
 simp only
 rw [if_pos h.1, h.2]
theorem is_dec {bs : List Int} {z : Int} {u : Nat} {e : Int} {k : Nat} (h : decI bs = (z, u, e)) : ∀ L ρ w v, (AV.tup [.d (Dm.int z k), .v (.int .i64 (u : Int)), .v (.int .i64 e)]).is L ρ w v → (AV.tup [.d (Dm.int (decI bs).1 k), .v (.int .i64 ((decI bs).2.1 : Nat)), .v (.int .i64 (decI bs).2.2)]).is L ρ w v := by
 rw [h]
 exact fun _ _ _ _ h => h
theorem is_decz {bs : List Int} {e : Int} {j k : Nat} (h : decI bs = (0, 0, e)) : ∀ L ρ w v, (AV.tup [.d (Dm.int 0 j), .v (.int .i64 0), .v (.int .i64 e)]).is L ρ w v → (AV.tup [.d (Dm.int (decI bs).1 k), .v (.int .i64 ((decI bs).2.1 : Nat)), .v (.int .i64 (decI bs).2.2)]).is L ρ w v := by
 rw [h]
 exact is_tri (is_lenle (by show (dig 0).length ≤ _; rw [dig_zero]; exact Nat.zero_le _)) rfl rfl

section
variable (bs : List Int) (hb : W.Bs bs) (hl : bs.length ≤ 1000)
include hb hl
theorem Decode_con : Con Tryz.prog 13 [ZI .u8 bs] (.tup [.d (Dm.int (decI bs).1 1000), .v (.int .i64 ((decI bs).2.1 : Nat)), .v (.int .i64 (decI bs).2.2)]) := by
 have hlen := decList_len hb
 rcases hq : W.decList W.dec 1 bs with ⟨l, u, e⟩
 rw [hq] at hlen
 simp only at hlen
 refine Con.of (n := 48) Tryz.func13 rfl rfl rfl rfl rfl fun cx hfr => ?_
 refine sr rfl ?_
 refine p2 (ok_alloc (i := 0) rfl rfl bd zero_int rfl rfl rfl rfl) ?_
 refine mr rfl rfl bd rfl ?_
 refine mr rfl rfl bd rfl ?_
 refine RV.done (sr rfl ?_)
 refine ml rfl rfl bd rfl ?_
 refine p1 (ok_call (GetInts_con bs hb (by omega) hq) rfl rfl bd Tryz.func89 rfl rfl (.cons rfl Conv.any .nil) rfl hfr rfl) ?_
 refine ml rfl rfl bd rfl ?_
 refine p1 (ok_extract rfl rfl bd rfl rfl) ?_
 refine p1 (ok_extract rfl rfl bd rfl rfl) ?_
 refine p1 (ok_extract rfl rfl bd rfl rfl) ?_
 refine mr rfl rfl bd rfl ?_
 refine mr rfl rfl bd rfl ?_
 refine mr rfl rfl bd rfl ?_
 refine RV.done ?_
 refine CV.seq ?_
 refine sr rfl ?_
 refine ml rfl rfl bd rfl ?_
 refine p1 (ok_neq rfl rfl bd rfl rfl) ?_
 refine RV.done ?_
 refine CV.cond rfl (fun he => ?_) (fun he => ?_)
 ·refine sr rfl ?_
  refine p1 (ok_buildI rfl rfl bd) ?_
  refine ml rfl rfl bd rfl ?_
  refine p1 (ok_store rfl rfl rfl rfl rfl rfl rfl (ty_int).2 rfl rfl rfl rfl) ?_
  refine mr rfl rfl bd rfl ?_
  refine mr rfl rfl bd rfl ?_
  refine RV.done ?_
  refine CV.ret ?_
  exact fin3 rfl (.inr rfl) ⟨_, _, _, _, _, rfl, rfl, rfl, ty_int⟩ rfl rfl (is_decz (decI_err hq (by simpa using he)))
 ·refine CV.skip ?_
  refine CV.seq ?_
  refine sr rfl ?_
  refine ml rfl rfl bd rfl ?_
  refine p1 (ok_lenL (ziV_length _) u_ints rfl rfl bd rfl) ?_
  refine p1 (ok_eql rfl rfl bd rfl rfl) ?_
  refine RV.done ?_
  refine CV.cond rfl (fun hn => ?_) (fun hn => ?_)
  ·refine sr rfl ?_
   refine p1 (ok_buildI rfl rfl bd) ?_
   refine p1 (ok_store rfl rfl rfl rfl rfl rfl rfl (ty_int).2 rfl rfl rfl rfl) ?_
   refine mr rfl rfl bd rfl ?_
   refine mr rfl rfl bd rfl ?_
   refine RV.done ?_
   refine CV.ret ?_
   have hne : l = [] := (by simpa using hn)
   exact fin3 rfl (.inr rfl) ⟨_, _, _, _, _, rfl, rfl, rfl, ty_int⟩ rfl rfl (is_decz (decI_bad hq (by simpa using he) (by rw [hne]; exact fun h => nomatch h)))
  ·have hne : l ≠ [] := (by rintro rfl; simp at hn)
   have hpos : 0 < l.length := List.length_pos_iff.2 hne
   have he0 : e = 0 := (by simpa using he)
   refine CV.skip ?_
   refine CV.seq ?_
   refine CV.region rfl (fun _ => by kernel_rfl) ?_
   refine ml rfl rfl bd rfl ?_
   refine p1 (ok_idxL (k := none) (i := 0) (ziV_at hpos) u_ints sz_i64 (by decide) rfl rfl bd rfl rfl) ?_
   refine p1 (ok_loadP ty_i64 (by decide) rfl rfl bd rfl) ?_
   refine p1 (ok_lssB rfl rfl rfl bd rfl rfl) ?_
   refine ml rfl rfl bd rfl ?_
   refine p1 (ok_cutL (k := none) (l' := ziV .i64 (l.drop 1)) (some 1) none none (by show ((ziV .i64 l).take (ziV .i64 l).length).drop 1 = _; rw [List.take_length, ziV_drop]) (by decide) (by rw [ziV_length]; exact hpos) (Nat.le_refl _) (Nat.le_refl _) (fun _ => rfl) u_ints sz_i64 rfl rfl bd rfl rfl trivial trivial) ?_
   refine p1 (ok_braw rfl rfl bd rfl rfl) ?_
   refine p2 (ok_alloc (i := 1) rfl rfl bd zero_int rfl rfl rfl rfl) ?_
   refine p1 (ok_store rfl rfl rfl rfl rfl rfl rfl (ty_int).2 rfl rfl rfl rfl) ?_
   refine RV.drawn (by kernel_rfl) ?_
   refine CV.seq ?_
   refine CV.seq ?_
   refine CV.region rfl (fun _ => by kernel_rfl) ?_
   refine p1 (ok_load rfl rfl bd rfl rfl rfl ty_int) ?_
   refine p1 (ok_call (VRaw_con _ _ _ rfl) rfl rfl bd Tryz.func90 rfl rfl (.cons rfl Conv.any .nil) rfl hfr rfl) ?_
   refine p1 (ok_not rfl rfl bd rfl) ?_
   refine ml rfl rfl bd rfl ?_
   refine RV.bool (fun hv => ?_) (fun hv => ?_)
   ·refine RV.step1 (OpOk.skip rfl rfl rfl rfl rfl bd) ?_
    refine RV.step1 (OpOk.skip rfl rfl rfl rfl rfl bd) ?_
    refine RV.step1 (OpOk.skip rfl rfl rfl rfl rfl bd) ?_
    refine RV.step1 (OpOk.skip rfl rfl rfl rfl rfl bd) ?_
    refine RV.step1 (OpOk.skip rfl rfl rfl rfl rfl bd) ?_
    refine RV.step1 (OpOk.skip rfl rfl rfl rfl rfl bd) ?_
    refine p1 (ok_pickT rfl rfl bd rfl rfl rfl) ?_
    refine RV.drawn (by kernel_rfl) ?_
    refine CV.yes rfl ?_
    refine sr rfl ?_
    refine p1 (ok_buildI rfl rfl bd) ?_
    refine p1 (ok_store rfl rfl rfl rfl rfl rfl rfl (ty_int).2 rfl rfl rfl rfl) ?_
    refine mr rfl rfl bd rfl ?_
    refine mr rfl rfl bd rfl ?_
    refine RV.done ?_
    refine CV.ret ?_
    exact fin3 rfl (.inr rfl) ⟨_, _, _, _, _, rfl, rfl, rfl, ty_int⟩ rfl rfl (is_decz (decI_bad hq he0 (dec_bad (b := decide (l.getD 0 0 < 0)) (by simpa using hv) (fun z h => by rw [← h, decide_eq_decide]; exact (cmp0 z).1.symm))))
   ·obtain ⟨z, hz1, hz2⟩ := valid_int (b := decide (l.getD 0 0 < 0)) (zs := l.drop 1) (by simpa using hv)
    have hzl : len z ≤ 1000 := (by have := congrArg List.length hz2; rw [List.length_map, List.length_drop] at this; show (dig z.natAbs).length ≤ _; omega)
    refine RV.step1 (OpOk.yes (ok_load rfl rfl bd rfl rfl rfl ty_int) rfl rfl rfl) ?_
    refine RV.step1 (OpOk.yes (ok_callF (SignF_con z (j := 1000)) rfl rfl bd Tryz.func88 rfl rfl (.cons rfl ⟨rfl, raw_int hz1 hz2 hzl⟩ .nil) rfl) rfl rfl rfl) ?_
    refine RV.step1 (OpOk.yes (ok_move (.inl rfl) rfl bd rfl) rfl rfl rfl) ?_
    refine RV.step1 (OpOk.yes (ok_idxL (k := none) (i := 0) (ziV_at hpos) u_ints sz_i64 (by decide) rfl rfl bd rfl rfl) rfl rfl rfl) ?_
    refine RV.step1 (OpOk.yes (ok_loadP ty_i64 (by decide) rfl rfl bd rfl) rfl rfl rfl) ?_
    refine RV.step1 (OpOk.yes (ok_neq rfl rfl bd rfl rfl) rfl rfl rfl) ?_
    refine p1 (ok_pickF rfl rfl bd rfl rfl rfl) ?_
    refine RV.drawn (by kernel_rfl) ?_
    refine CV.cond rfl (fun hs => ?_) (fun hs => ?_)
    ·refine sr rfl ?_
     refine p1 (ok_buildI rfl rfl bd) ?_
     refine p1 (ok_store rfl rfl rfl rfl rfl rfl rfl (ty_int).2 rfl rfl rfl rfl) ?_
     refine mr rfl rfl bd rfl ?_
     refine mr rfl rfl bd rfl ?_
     refine RV.done ?_
     refine CV.ret ?_
     exact fin3 rfl (.inr rfl) ⟨_, _, _, _, _, rfl, rfl, rfl, ty_int⟩ rfl rfl (is_decz (decI_bad hq he0 (dec_diff hz2 (fun y h => by rw [hz1, ← h, decide_eq_decide]; exact (cmp0 y).1.symm) (by simpa using hs))))
    ·refine CV.skip ?_
     refine sr rfl ?_
     refine p1 (ok_fieldAddr fa_int0 rfl rfl bd rfl) ?_
     refine p1 (ok_loadf 0 fld_rawneg rfl rfl bd rfl rfl rfl rfl ty_bool) ?_
     refine p1 (ok_fieldAddr fa_int1 rfl rfl bd rfl) ?_
     refine p1 (ok_loadf 1 fld_rawdig rfl rfl bd rfl rfl rfl rfl ty_ints) ?_
     refine p1 (ok_call (signed_con (decide (l.getD 0 0 < 0)) (dig z.natAbs) 1000 (dig_Dig _) (by rw [val_dig, ← hz1, mk_self]; exact hzl)) rfl rfl bd Tryz.func86 rfl rfl (.cons rfl Conv.any (.cons rfl ⟨rfl, zi_dl hz2⟩ .nil)) rfl hfr rfl) ?_
     refine ml rfl rfl bd rfl ?_
     refine p1 (ok_store rfl rfl rfl rfl rfl rfl rfl (ty_int).2 rfl rfl rfl rfl) ?_
     refine mr rfl rfl bd rfl ?_
     refine mr rfl rfl bd rfl ?_
     refine RV.done ?_
     refine CV.ret ?_
     have hd := decI_ok hq he0 (dec_same hne hz2 (by simpa using hs))
     exact fin3 rfl (.inr rfl) ⟨_, _, _, _, _, rfl, rfl, rfl, ty_int⟩ rfl rfl (fun L ρ w v h => is_dec hd L ρ w v (by rw [val_dig, ← hz1, mk_self] at h; exact h))
theorem rDecode_con : Con Tryz.prog 23 [ZI .u8 bs] (.tup [.d (Dm.int (decI bs).1 1000), .v (.int .i64 ((decI bs).2.1 : Nat)), .v (.int .i64 (decI bs).2.2)]) := by
 have hlen := decList_len hb
 rcases hq : W.decList W.dec 1 bs with ⟨l, u, e⟩
 rw [hq] at hlen
 simp only at hlen
 refine Con.of (n := 43) Tryz.func23 rfl rfl rfl rfl rfl fun cx hfr => ?_
 refine sr rfl ?_
 refine p2 (ok_alloc (i := 0) rfl rfl bd zero_int rfl rfl rfl rfl) ?_
 refine mr rfl rfl bd rfl ?_
 refine mr rfl rfl bd rfl ?_
 refine RV.done (sr rfl ?_)
 refine ml rfl rfl bd rfl ?_
 refine p1 (ok_call (rGetInts_con bs hb (by omega) hq) rfl rfl bd Tryz.func94 rfl rfl (.cons rfl Conv.any .nil) rfl hfr rfl) ?_
 refine ml rfl rfl bd rfl ?_
 refine p1 (ok_extract rfl rfl bd rfl rfl) ?_
 refine p1 (ok_extract rfl rfl bd rfl rfl) ?_
 refine p1 (ok_extract rfl rfl bd rfl rfl) ?_
 refine mr rfl rfl bd rfl ?_
 refine mr rfl rfl bd rfl ?_
 refine mr rfl rfl bd rfl ?_
 refine RV.done ?_
 refine CV.seq ?_
 refine sr rfl ?_
 refine ml rfl rfl bd rfl ?_
 refine p1 (ok_neq rfl rfl bd rfl rfl) ?_
 refine RV.done ?_
 refine CV.cond rfl (fun he => ?_) (fun he => ?_)
 ·refine sr rfl ?_
  refine p1 (ok_buildI rfl rfl bd) ?_
  refine ml rfl rfl bd rfl ?_
  refine p1 (ok_store rfl rfl rfl rfl rfl rfl rfl (ty_int).2 rfl rfl rfl rfl) ?_
  refine mr rfl rfl bd rfl ?_
  refine mr rfl rfl bd rfl ?_
  refine RV.done ?_
  refine CV.ret ?_
  exact fin3 rfl (.inr rfl) ⟨_, _, _, _, _, rfl, rfl, rfl, ty_int⟩ rfl rfl (is_decz (decI_err hq (by simpa using he)))
 ·refine CV.skip ?_
  refine CV.seq ?_
  refine sr rfl ?_
  refine ml rfl rfl bd rfl ?_
  refine p1 (ok_lenL (ziV_length _) u_ints rfl rfl bd rfl) ?_
  refine p1 (ok_eql rfl rfl bd rfl rfl) ?_
  refine RV.done ?_
  refine CV.cond rfl (fun hn => ?_) (fun hn => ?_)
  ·refine sr rfl ?_
   refine p1 (ok_buildI rfl rfl bd) ?_
   refine p1 (ok_store rfl rfl rfl rfl rfl rfl rfl (ty_int).2 rfl rfl rfl rfl) ?_
   refine mr rfl rfl bd rfl ?_
   refine mr rfl rfl bd rfl ?_
   refine RV.done ?_
   refine CV.ret ?_
   have hne : l = [] := (by simpa using hn)
   exact fin3 rfl (.inr rfl) ⟨_, _, _, _, _, rfl, rfl, rfl, ty_int⟩ rfl rfl (is_decz (decI_bad hq (by simpa using he) (by rw [hne]; exact fun h => nomatch h)))
  ·have hne : l ≠ [] := (by rintro rfl; simp at hn)
   have hpos : 0 < l.length := List.length_pos_iff.2 hne
   have he0 : e = 0 := (by simpa using he)
   refine CV.skip ?_
   refine CV.seq ?_
   refine CV.region rfl (fun _ => by kernel_rfl) ?_
   refine ml rfl rfl bd rfl ?_
   refine p1 (ok_idxL (k := none) (i := 0) (ziV_at hpos) u_ints sz_i64 (by decide) rfl rfl bd rfl rfl) ?_
   refine p1 (ok_loadP ty_i64 (by decide) rfl rfl bd rfl) ?_
   refine p1 (ok_eqlB rfl rfl rfl bd rfl rfl) ?_
   refine ml rfl rfl bd rfl ?_
   refine p1 (ok_cutL (k := none) (l' := ziV .i64 (l.drop 1)) (some 1) none none (by show ((ziV .i64 l).take (ziV .i64 l).length).drop 1 = _; rw [List.take_length, ziV_drop]) (by decide) (by rw [ziV_length]; exact hpos) (Nat.le_refl _) (Nat.le_refl _) (fun _ => rfl) u_ints sz_i64 rfl rfl bd rfl rfl trivial trivial) ?_
   refine p1 (ok_braw rfl rfl bd rfl rfl) ?_
   refine p2 (ok_alloc (i := 1) rfl rfl bd zero_int rfl rfl rfl rfl) ?_
   refine p1 (ok_store rfl rfl rfl rfl rfl rfl rfl (ty_int).2 rfl rfl rfl rfl) ?_
   refine RV.drawn (by kernel_rfl) ?_
   refine CV.seq ?_
   refine sr rfl ?_
   refine p1 (ok_load rfl rfl bd rfl rfl rfl ty_int) ?_
   refine p1 (ok_call (rVRaw_con _ _ _ rfl) rfl rfl bd Tryz.func95 rfl rfl (.cons rfl Conv.any .nil) rfl hfr rfl) ?_
   refine p1 (ok_not rfl rfl bd rfl) ?_
   refine RV.done ?_
   refine CV.cond rfl (fun hv => ?_) (fun hv => ?_)
   ·refine sr rfl ?_
    refine p1 (ok_buildI rfl rfl bd) ?_
    refine p1 (ok_store rfl rfl rfl rfl rfl rfl rfl (ty_int).2 rfl rfl rfl rfl) ?_
    refine mr rfl rfl bd rfl ?_
    refine mr rfl rfl bd rfl ?_
    refine RV.done ?_
    refine CV.ret ?_
    exact fin3 rfl (.inr rfl) ⟨_, _, _, _, _, rfl, rfl, rfl, ty_int⟩ rfl rfl (is_decz (decI_bad hq he0 (dec_bad (b := (l.getD 0 0 == -1)) (by simpa using hv) (fun z h => by rw [← h, Bool.eq_iff_iff, decide_eq_true_eq, beq_iff_eq]; exact (cmp0 z).2.symm))))
   ·obtain ⟨z, hz1, hz2⟩ := valid_int (b := (l.getD 0 0 == -1)) (zs := l.drop 1) (by simpa using hv)
    have hzl : len z ≤ 1000 := (by have := congrArg List.length hz2; rw [List.length_map, List.length_drop] at this; show (dig z.natAbs).length ≤ _; omega)
    refine CV.skip ?_
    refine CV.seq ?_
    refine CV.seq ?_
    refine CV.region rfl (fun _ => by kernel_rfl) ?_
    refine p1 (ok_load rfl rfl bd rfl rfl rfl ty_int) ?_
    refine p1 (ok_callF (rSignF_con z (j := 1000)) rfl rfl bd Tryz.func92 rfl rfl (.cons rfl ⟨rfl, raw_int hz1 hz2 hzl⟩ .nil) rfl) ?_
    refine ml rfl rfl bd rfl ?_
    refine p1 (ok_idxL (k := none) (i := 0) (ziV_at hpos) u_ints sz_i64 (by decide) rfl rfl bd rfl rfl) ?_
    refine p1 (ok_loadP ty_i64 (by decide) rfl rfl bd rfl) ?_
    refine p1 (ok_neq rfl rfl bd rfl rfl) ?_
    refine RV.drawn (by kernel_rfl) ?_
    refine CV.cond rfl (fun hs => ?_) (fun hs => ?_)
    ·refine sr rfl ?_
     refine p1 (ok_buildI rfl rfl bd) ?_
     refine p1 (ok_store rfl rfl rfl rfl rfl rfl rfl (ty_int).2 rfl rfl rfl rfl) ?_
     refine mr rfl rfl bd rfl ?_
     refine mr rfl rfl bd rfl ?_
     refine RV.done ?_
     refine CV.ret ?_
     exact fin3 rfl (.inr rfl) ⟨_, _, _, _, _, rfl, rfl, rfl, ty_int⟩ rfl rfl (is_decz (decI_bad hq he0 (dec_diff hz2 (fun y h => by rw [hz1, ← h, Bool.eq_iff_iff, decide_eq_true_eq, beq_iff_eq]; exact (cmp0 y).2.symm) (by simpa using hs))))
    ·refine CV.skip ?_
     refine sr rfl ?_
     refine p1 (ok_load rfl rfl bd rfl rfl rfl ty_int) ?_
     refine ml rfl rfl bd rfl ?_
     refine p1 (ok_store rfl rfl rfl rfl rfl rfl rfl (ty_int).2 rfl rfl rfl rfl) ?_
     refine mr rfl rfl bd rfl ?_
     refine mr rfl rfl bd rfl ?_
     refine RV.done ?_
     refine CV.ret ?_
     have hd := decI_ok hq he0 (dec_same hne hz2 (by simpa using hs))
     exact fin3 rfl (.inr rfl) ⟨_, _, _, _, _, rfl, rfl, rfl, ty_int⟩ rfl rfl (fun L ρ w v h => is_dec hd L ρ w v (is_tri (raw_int hz1 hz2 hzl) rfl rfl L ρ w v h))
end

/-! Few, Short, Around; a text's and a code's way back. -/
theorem Few_con (zs : List Int) (k : Nat) (hk : k ≤ 1000000) : Con Tryz.prog 14 [ZI .u8 zs, .v (.int .i64 (k : Int))] (.one (ZI .u8 (zs.take k))) := by
 refine Con.of (n := 14) Tryz.func14 rfl rfl rfl rfl rfl fun cx hfr => ?_
 refine sr rfl ?_
 refine mr rfl rfl bd rfl ?_
 refine RV.done (sr rfl ?_)
 refine mr rfl rfl bd rfl ?_
 refine RV.done ?_
 refine CV.seq ?_
 refine CV.nilrow 5 5 5 none rfl rfl rfl rfl ?_
 refine CV.region rfl (fun h => nomatch h) ?_
 refine ml rfl rfl bd rfl ?_
 refine ml rfl rfl bd rfl ?_
 refine ml rfl rfl bd rfl ?_
 refine p1 (ok_lenL (ziV_length _) u_bytes rfl rfl bd rfl) ?_
 refine ml rfl rfl bd rfl ?_
 refine p1 (ok_minI (c := ((min zs.length k : Nat) : Int)) (by split <;> omega) rfl rfl bd rfl rfl) ?_
 refine p1 (ok_cutL (k := none) (l' := ziV .u8 (zs.take k)) none (some (min zs.length k)) none (by show ((ziV .u8 zs).take (min zs.length k)).drop 0 = _; rw [List.drop_zero, ziV_take, show zs.take (min zs.length k) = zs.take k from by rw [Nat.min_comm, ← List.take_take, List.take_of_length_le (Nat.le_refl zs.length)]]) (by decide) (Nat.zero_le _) (by show min zs.length k ≤ (ziV .u8 zs).length; rw [ziV_length]; omega) (Nat.le_refl _) (fun h => nomatch h) u_bytes sz_u8 rfl rfl bd rfl trivial rfl trivial) ?_
 refine RV.step4 (OpOk.plain (ok_appendND (r := 5) (r' := 6) (k := none) (G := Dm.gen (lstG none (ziV .u8 (zs.take k)))) [] (cx.bw hfr) (lst_elems (by decide) (ziV_ptrs _)) (lstG_Lst none _) (lstG_Lst0 none _) (by rw [ziV_length, List.length_take]; show (0 + _) * 1 ≤ _; omega) (by rw [ziV_length, List.length_take]; show 0 + _ ≤ _; omega) u_bytes inf_u8 rfl rfl rfl rfl rfl bd rfl rfl rfl rfl rfl rfl rfl rfl) rfl) ?_
 refine mr rfl rfl bd rfl ?_
 refine RV.done ?_
 refine CV.ret ?_
 exact fin1 rfl (.inr rfl) rfl is_rfl
theorem Short_con (l : List UInt8) (k : Nat) (hk : k ≤ 1000000) : Con (D := Dm) Tryz.prog 20 [.v (str l), .v (.int .i64 (k : Int))] (.one (.v (str (l.take k)))) := by
 refine Con.of (n := 13) Tryz.func20 rfl rfl rfl rfl rfl fun cx hfr => ?_
 refine sr rfl ?_
 refine mr rfl rfl bd rfl ?_
 refine RV.done ?_
 refine CV.seq ?_
 refine sr rfl ?_
 refine ml rfl rfl bd rfl ?_
 refine p1 (ok_lenT rfl u_str rfl rfl bd rfl) ?_
 refine ml rfl rfl bd rfl ?_
 refine p1 (ok_gtr rfl rfl bd rfl rfl) ?_
 refine RV.done ?_
 refine CV.cond rfl (fun hc => ?_) (fun hc => ?_)
 ·refine sr rfl ?_
  refine ml rfl rfl bd rfl ?_
  refine ml rfl rfl bd rfl ?_
  refine p1 (ok_cutT (v := l.take k) none (some k) (by show (l.take k).drop 0 = _; rw [List.drop_zero]) (Nat.zero_le _) (by show k ≤ l.length; simp at hc; omega) u_str rfl rfl bd rfl trivial rfl) ?_
  refine mr rfl rfl bd rfl ?_
  refine RV.done ?_
  refine CV.ret ?_
  exact fin1 rfl (.inr rfl) rfl is_rfl
 ·refine CV.skip ?_
  refine sr rfl ?_
  refine ml rfl rfl bd rfl ?_
  refine mr rfl rfl bd rfl ?_
  refine RV.done ?_
  refine CV.ret ?_
  exact fin1 rfl (.inr rfl) rfl (is_of (by rw [List.take_of_length_le (by simp at hc; omega)]))
def aroundN (n : Int) (m : Nat) : Nat := (if n < 0 then -(n + 1) else n).toNat % m
theorem AroundN_con (n : Int) (m : Nat) (hm : 0 < m) (hm2 : m ≤ 1000000) (h1 : -9223372036854775808 ≤ n) (h2 : n ≤ 9223372036854775807) : Con (D := Dm) Tryz.prog 19 [.v (.int .i64 n), .v (.int .i64 (m : Int))] (.one (.v (.int .i64 ((aroundN n m : Nat) : Int)))) := by
 refine Con.of (n := 13) Tryz.func19 rfl rfl rfl rfl rfl fun cx hfr => ?_
 refine sr rfl ?_
 refine mr rfl rfl bd rfl ?_
 refine RV.done ?_
 refine CV.seq ?_
 refine sr rfl ?_
 refine ml rfl rfl bd rfl ?_
 refine p1 (ok_lss rfl rfl bd rfl rfl) ?_
 refine RV.done ?_
 refine CV.cond rfl (fun hc => ?_) (fun hc => ?_)
 ·refine CV.region rfl (fun h => nomatch h) ?_
  refine ml rfl rfl bd rfl ?_
  refine p1 (ok_add (c := n + 1) (by rw [wrapI (by omega) (by have : n < 0 := (by simpa using hc); omega)]) rfl rfl bd rfl rfl) ?_
  refine p1 (ok_neg (c := -(n + 1)) (by rw [wrapI (by have : n < 0 := (by simpa using hc); omega) (by have : n < 0 := (by simpa using hc); omega)]; omega) rfl rfl bd rfl) ?_
  refine mr rfl rfl bd rfl ?_
  refine RV.done (sr rfl ?_)
  refine ml rfl rfl bd rfl ?_
  refine ml rfl rfl bd rfl ?_
  refine p1 (ok_remC (c := ((aroundN n m : Nat) : Int)) (by omega) (by unfold aroundN; have hc' := hc; simp at hc'; rw [Int.tmod_eq_emod_of_nonneg (by omega)]; first | rw [if_pos (by omega), Int.natCast_emod, Int.toNat_of_nonneg (by omega)] | rw [if_neg (by omega), Int.natCast_emod, Int.toNat_of_nonneg (by omega)]) rfl rfl bd rfl rfl) ?_
  refine mr rfl rfl bd rfl ?_
  refine RV.done ?_
  refine CV.ret ?_
  exact fin1 rfl (.inr rfl) rfl is_rfl
 ·refine CV.skip ?_
  refine sr rfl ?_
  refine ml rfl rfl bd rfl ?_
  refine ml rfl rfl bd rfl ?_
  refine p1 (ok_remC (c := ((aroundN n m : Nat) : Int)) (by omega) (by unfold aroundN; have hc' := hc; simp at hc'; rw [Int.tmod_eq_emod_of_nonneg (by omega)]; first | rw [if_pos (by omega), Int.natCast_emod, Int.toNat_of_nonneg (by omega)] | rw [if_neg (by omega), Int.natCast_emod, Int.toNat_of_nonneg (by omega)]) rfl rfl bd rfl rfl) ?_
  refine mr rfl rfl bd rfl ?_
  refine RV.done ?_
  refine CV.ret ?_
  exact fin1 rfl (.inr rfl) rfl is_rfl
theorem ParseT_con (z : Int) (h : (txtI z).length ≤ 65536) : Con (D := Dm) Tryz.prog 11 [.v (str (txtI z))] (.tup [.d (Dm.int z 7300), .v (.int .i64 0)]) := by
 have q := Parse_con (txtI z)
 rwa [parse_txt z h] at q
theorem DecodeT_con (z : Int) (t : List Int) (hz : len z ≤ 1000000000) (ht : W.Bs t) (hl : (encI z ++ t).length ≤ 1000) : Con Tryz.prog 13 [ZI .u8 (encI z ++ t)] (.tup [.d (Dm.int z 1000), .v (.int .i64 ((encI z).length : Nat)), .v (.int .i64 0)]) := by
 have q := Decode_con (encI z ++ t) ((encI_bs z).append ht) hl
 rwa [decI_enc z hz t] at q
theorem SameBT_con (a : List Int) (ha : a.length ≤ 1000000000000) : Con Tryz.prog 17 [ZI .u8 a, ZI .u8 a] (.one (.v (.bool true))) := by
 have q := SameB_con a a ha
 rwa [decide_eq_true (rfl : a = a)] at q
theorem txtI_ne (z : Int) (h : (txtI z).length ≤ 65536) : 0 < (txtI z).length := by
 refine List.length_pos_iff.2 fun e => ?_
 have q := parse_txt z h
 rw [e, show parseI [] = (0, 2) by decide] at q
 simp at q
theorem lst_eqv {k : Option Nat} {l l' : List (SA Dm)} (h : l = l') : ∀ L ρ w v, (SA.d (Dm.gen (lstG k l))).is L ρ w v → (SA.d (Dm.gen (lstG k l'))).is L ρ w v := by subst h; exact fun _ _ _ _ h => h
theorem nil_zi {k : IntKind} : ∀ (L : Nat → Prop) (ρ : Rho) (w : World) (v : Value), (SA.v (.slice none 0 0) : SA Dm).is L ρ w v → (ZI k []).is L ρ w v := by
 intro L ρ w v h w' _
 obtain rfl : v = _ := h
 exact ⟨none, 0, rfl, ⟨Nat.le_refl _, by decide⟩, fun h => absurd h (Nat.lt_irrefl 0)⟩
def stV (ts : List (List UInt8)) : List (SA Dm) := ts.map fun t => .v (str t)
theorem stV_at {ts : List (List UInt8)} {i : Nat} (h : i < ts.length) : (stV ts)[i]? = some (.v (str (ts.getD i []))) := by
 simp [stV, List.getElem?_eq_getElem h, List.getD_eq_getElem?_getD]
theorem stV_kind {ts : List (List UInt8)} : ∀ s ∈ stV ts, s.kind = some none := by
 intro s hs
 obtain ⟨b, _, rfl⟩ := List.mem_map.1 hs
 rfl
def zbV (ls : List (List Int)) : List (SA Dm) := ls.map fun l => ZI .u8 l
theorem zbV_at {ls : List (List Int)} {i : Nat} (h : i < ls.length) : (zbV ls)[i]? = some (ZI .u8 (ls.getD i [])) := by
 simp [zbV, List.getElem?_eq_getElem h, List.getD_eq_getElem?_getD]
theorem zbV_kind {ls : List (List Int)} : ∀ s ∈ zbV ls, s.kind = some none := by
 intro s hs
 obtain ⟨b, _, rfl⟩ := List.mem_map.1 hs
 rfl
theorem u_strs : Tryz.prog.underlying 39 = some (.slice 9) := by kernel_rfl
theorem sz_str : (Tryz.prog.info? 9).map (·.size) = some 1 := by kernel_rfl
theorem zs_str : (Tryz.prog.info? 9).map (fun i => (i.size, i.zero)) = some (1, some (str [])) := by kernel_rfl
theorem u_lbytes : Tryz.prog.underlying 41 = some (.slice 23) := by kernel_rfl
theorem sz_bytes : (Tryz.prog.info? 23).map (·.size) = some 1 := by kernel_rfl
theorem zs_bytes : (Tryz.prog.info? 23).map (fun i => (i.size, i.zero)) = some (1, some (.slice none 0 0)) := by kernel_rfl
theorem byV_set (u : List UInt8) (i : Nat) (b : UInt8) : (byV u).set i (.v (.int .u8 (b.toNat : Int))) = byV (u.set i b) := by simp [byV, List.map_set]
theorem ziV_set (u : List Int) (i : Nat) (b : Int) : (ziV .u8 u).set i (.v (.int .u8 b)) = ziV .u8 (u.set i b) := by simp [ziV, List.map_set]
theorem bs_set {u : List Int} (h : W.Bs u) (i : Nat) {b : Int} (hb : 0 ≤ b ∧ b ≤ 255) : W.Bs (u.set i b) := fun x hx => by
 rcases List.mem_or_eq_of_mem_set hx with hx | rfl
 ·exact h x hx
 ·exact hb
theorem rep0 {α : Type} (M : Nat) (a b : α) : List.replicate M a = List.replicate 0 b ++ List.replicate (M - 0) a := by simp
theorem rep_step {α : Type} {M k : Nat} (a b : α) (h : k < M) : (List.replicate k b ++ List.replicate (M - k) a).set k b = List.replicate (k + 1) b ++ List.replicate (M - (k + 1)) a := by
 rw [show M - k = (M - (k + 1)) + 1 by omega, List.replicate_succ, List.set_append_right _ _ (by simp), List.length_replicate, Nat.sub_self, List.set_cons_zero, List.replicate_succ' (n := k), List.append_assoc]
 rfl
theorem rep_by (M : Nat) : List.replicate M (.v (.int .u8 55) : SA Dm) ++ List.replicate (M - M) (.v (.int .u8 0)) = byV (List.replicate M 55) := by
 rw [Nat.sub_self, List.replicate_zero, List.append_nil]
 unfold byV
 rw [List.map_replicate]
 rfl
theorem NumberX_con {l : List Int} {x : Int} (h : numI l 0 = x) : Con Tryz.prog 9 [.d (Dm.ints l), .v (.int .i64 0)] (.one (.d (Dm.int x 7))) := h ▸ Number_con l 0 (by decide)
theorem six {α : Type} {i : Nat} {a b c d e f g : α} (h : i < 6) {P : α → Prop} (ha : P a) (hb : P b) (hc : P c) (hd : P d) (he : P e) (hf : P f) : P ([a, b, c, d, e, f].getD i g) := by
 rcases (show i = 0 ∨ i = 1 ∨ i = 2 ∨ i = 3 ∨ i = 4 ∨ i = 5 by omega) with rfl | rfl | rfl | rfl | rfl | rfl <;> assumption

section
variable (l : List Int) (s : List UInt8) (b : List Int) (p : Int) (c : UInt8) (x : Int) (hx : numI l 0 = x) (hb : W.Bs b) (hp1 : -9223372036854775808 ≤ p) (hp2 : p ≤ 9223372036854775807)
include hx hb hp1 hp2
def txL (s : List UInt8) (p : Int) (c : UInt8) (x : Int) : List (List UInt8) := [(txtI x).set (aroundN p (txtI x).length) c, s.take 60, txtI x ++ [48], [45] ++ txtI x, [48] ++ txtI x, []]
def cdL (b : List Int) (p : Int) (c : UInt8) (x : Int) : List (List Int) := [(encI x).set (aroundN p (encI x).length) (c.toNat : Int), b.take 60, (encI x).take ((encI x).length - 1), W.encInts [1], W.encInts [0, 5], W.encInts []]
omit hx hp1 hp2 in
theorem cdL_ok (hxl : len x ≤ 7) {k : Nat} (h : k < 6) : W.Bs ((cdL b p c x).getD k []) ∧ ((cdL b p c x).getD k []).length ≤ 1000 := by
 have hc := c.toNat_lt
 have he := encI_bs x
 have hl := encI_length x
 refine six (P := fun r => W.Bs r ∧ r.length ≤ 1000) h ⟨bs_set he _ ⟨by omega, by omega⟩, by rw [List.length_set]; omega⟩ ⟨hb.take 60, by rw [List.length_take]; omega⟩ ⟨he.take _, by rw [List.length_take]; omega⟩ ?_ ?_ ?_ <;> exact ⟨by unfold W.Bs; decide, by decide⟩
theorem texts_con : Con Tryz.prog 3 [.d (Dm.ints l), .v (str s), ZI .u8 b, .v (.int .i64 p), .v (.int .u8 (c.toNat : Int))] (.one (.v (.bool true))) := by
 have hxl : len x ≤ 7 := hx ▸ numI_len l 0
 have htl := txtI_length x
 have htp := txtI_ne x (by omega)
 have hel := encI_length x
 have hc255 := c.toNat_lt
 refine Con.of (n := 235) Tryz.func3 rfl rfl rfl rfl rfl fun cx hfr => ?_
 refine sr rfl ?_
 refine mr rfl rfl bd rfl ?_
 refine RV.done (sr rfl ?_)
 refine ml rfl rfl bd rfl ?_
 refine p1 (ok_call (NumberX_con hx) rfl rfl bd Tryz.func9 rfl rfl (.cons rfl Conv.any (.cons rfl Conv.any .nil)) rfl hfr rfl) ?_
 refine p2 (ok_alloc (i := 0) rfl rfl bd zero_int rfl rfl rfl rfl) ?_
 refine p1 (ok_store rfl rfl rfl rfl rfl rfl rfl (ty_int).2 rfl rfl rfl rfl) ?_
 refine RV.done (sr rfl ?_)
 refine p1 (ok_load rfl rfl bd rfl rfl rfl ty_int) ?_
 refine p1 (ok_call (Text_con _ _ (by decide)) rfl rfl bd Tryz.func10 rfl rfl (.cons rfl Conv.any .nil) rfl hfr rfl) ?_
 refine mr rfl rfl bd rfl ?_
 refine RV.done (sr rfl ?_)
 refine ml rfl rfl bd rfl ?_
 refine p1 (ok_call (ParseT_con x (by omega)) rfl rfl bd Tryz.func11 rfl rfl (.cons rfl Conv.any .nil) rfl hfr rfl) ?_
 refine ml rfl rfl bd rfl ?_
 refine p1 (ok_extract rfl rfl bd rfl rfl) ?_
 refine p1 (ok_extract rfl rfl bd rfl rfl) ?_
 refine p2 (ok_alloc (i := 1) rfl rfl bd zero_int rfl rfl rfl rfl) ?_
 refine p1 (ok_store rfl rfl rfl rfl rfl rfl rfl (ty_int).2 rfl rfl rfl rfl) ?_
 refine mr rfl rfl bd rfl ?_
 refine RV.done (sr rfl ?_)
 refine p1 (ok_load rfl rfl bd rfl rfl rfl ty_int) ?_
 refine p1 (ok_callRowD (G := Dm.gen (lstG none (ziV .u8 (encI x)))) (Encode_con _ _ (by omega)) (ziV_vals _) (lstG_Lst none _) (lstG_Lst0 none _) rfl rfl bd Tryz.func12 rfl rfl (.cons rfl Conv.any .nil)) ?_
 refine mr rfl rfl bd rfl ?_
 refine RV.done (sr rfl ?_)
 refine p2 (ok_litR (r := 51) (ss := []) (xs := []) (k := none) u_bytes zs_u8 rfl rfl rfl (by intro s hs; cases hs) (by intro s hs; cases hs) rfl rfl rfl bd trivial rfl rfl) ?_
 refine ml rfl rfl bd rfl ?_
 refine RV.step3 (OpOk.plain (ok_append (r := 51) (r' := 53) (k := none) (lst_elems (by decide) (ziV_ptrs _)) (by rw [ziV_length]; show (0 + _) * 1 ≤ _; omega) (by rw [ziV_length]; show 0 + _ ≤ _; omega) u_bytes inf_u8 rfl rfl rfl (ziV_plain _) rfl rfl rfl bd rfl rfl rfl rfl rfl rfl rfl rfl) rfl) ?_
 refine ml rfl rfl bd rfl ?_
 refine p1 (ok_call (Few_con b 40 (by decide)) rfl rfl bd Tryz.func14 rfl rfl (.cons rfl Conv.any (.cons rfl Conv.any .nil)) rfl hfr rfl) ?_
 refine RV.step3 (OpOk.plain (ok_appendD (r := 53) (r' := 56) (k := none) (G := Dm.gen (lstG none ([] ++ ziV .u8 (encI x) ++ ziV .u8 (b.take 40)))) (cx.bw hfr) (lst_elems (by decide) (ziV_ptrs _)) (lstG_Lst none _) (lstG_Lst0 none _) (by rw [List.nil_append, ziV_length, ziV_length, List.length_take]; omega) (by rw [List.nil_append, ziV_length, ziV_length, List.length_take]; omega) u_bytes inf_u8 rfl rfl rfl (ziV_plain _) (by rw [List.nil_append]; exact Nat.zero_add _) rfl rfl bd rfl rfl rfl rfl rfl rfl rfl rfl) rfl) ?_
 refine p1 (ok_call (DecodeT_con x (b.take 40) (by omega) (hb.take 40) (by rw [List.length_append, List.length_take]; omega)) rfl rfl bd Tryz.func13 rfl rfl (.cons rfl ⟨rfl, lst_eqv (by rw [List.nil_append, ziV_append])⟩ .nil) rfl hfr rfl) ?_
 refine ml rfl rfl bd rfl ?_
 refine p1 (ok_extract rfl rfl bd rfl rfl) ?_
 refine p1 (ok_extract rfl rfl bd rfl rfl) ?_
 refine p1 (ok_extract rfl rfl bd rfl rfl) ?_
 refine p2 (ok_alloc (i := 2) rfl rfl bd zero_int rfl rfl rfl rfl) ?_
 refine p1 (ok_store rfl rfl rfl rfl rfl rfl rfl (ty_int).2 rfl rfl rfl rfl) ?_
 refine mr rfl rfl bd rfl ?_
 refine mr rfl rfl bd rfl ?_
 refine RV.done ?_
 refine CV.seq ?_
 refine sr rfl ?_
 refine ml rfl rfl bd rfl ?_
 refine p1 (ok_load rfl rfl bd rfl rfl rfl ty_int) ?_
 refine p1 (ok_call (rText_con _ _ (by decide)) rfl rfl bd Tryz.func15 rfl rfl (.cons rfl Conv.any .nil) rfl hfr rfl) ?_
 refine p1 (ok_neT (b := false) (by simp) rfl rfl bd rfl rfl) ?_
 refine ml rfl rfl bd rfl ?_
 refine RV.step1 (OpOk.yes (ok_move (.inl rfl) rfl bd rfl) rfl rfl rfl) ?_
 refine RV.step1 (OpOk.yes (ok_neqF rfl rfl rfl bd rfl rfl) rfl rfl rfl) ?_
 refine p1 (ok_pickF rfl rfl bd rfl rfl rfl) ?_
 refine ml rfl rfl bd rfl ?_
 refine RV.step1 (OpOk.yes (ok_load rfl rfl bd rfl rfl rfl ty_int) rfl rfl rfl) ?_
 refine RV.step1 (OpOk.yes (ok_load rfl rfl bd rfl rfl rfl ty_int) rfl rfl rfl) ?_
 refine RV.step1 (OpOk.yes (ok_call (same4T_con _) rfl rfl bd Tryz.func16 rfl rfl (.cons rfl Conv.any (.cons rfl Conv.any .nil)) rfl hfr rfl) rfl rfl rfl) ?_
 refine RV.step1 (OpOk.yes (ok_not rfl rfl bd rfl) rfl rfl rfl) ?_
 refine p1 (ok_pickF rfl rfl bd rfl rfl rfl) ?_
 refine ml rfl rfl bd rfl ?_
 refine RV.step1 (OpOk.yes (ok_move (.inl rfl) rfl bd rfl) rfl rfl rfl) ?_
 refine RV.step1 (OpOk.yes (ok_load rfl rfl bd rfl rfl rfl ty_int) rfl rfl rfl) ?_
 refine RV.step1 (OpOk.yes (ok_callRowD (G := Dm.gen (lstG none (ziV .u8 (encI x)))) (rEncode_con _ _ (by omega)) (ziV_vals _) (lstG_Lst none _) (lstG_Lst0 none _) rfl rfl bd Tryz.func18 rfl rfl (.cons rfl Conv.any .nil)) rfl rfl rfl) ?_
 refine RV.step1 (OpOk.yes (ok_call (SameBT_con _ (by omega)) rfl rfl bd Tryz.func17 rfl rfl (.cons rfl Conv.any (.cons rfl Conv.any .nil)) rfl hfr rfl) rfl rfl rfl) ?_
 refine RV.step1 (OpOk.yes (ok_not rfl rfl bd rfl) rfl rfl rfl) ?_
 refine p1 (ok_pickF rfl rfl bd rfl rfl rfl) ?_
 refine ml rfl rfl bd rfl ?_
 refine RV.step1 (OpOk.yes (ok_move (.inl rfl) rfl bd rfl) rfl rfl rfl) ?_
 refine RV.step1 (OpOk.yes (ok_neqF rfl rfl rfl bd rfl rfl) rfl rfl rfl) ?_
 refine p1 (ok_pickF rfl rfl bd rfl rfl rfl) ?_
 refine ml rfl rfl bd rfl ?_
 refine RV.step1 (OpOk.yes (ok_move (.inl rfl) rfl bd rfl) rfl rfl rfl) ?_
 refine RV.step1 (OpOk.yes (ok_move (.inl rfl) rfl bd rfl) rfl rfl rfl) ?_
 refine RV.step1 (OpOk.yes (ok_lenL (ziV_length _) u_bytes rfl rfl bd rfl) rfl rfl rfl) ?_
 refine RV.step1 (OpOk.yes (ok_neqF rfl rfl rfl bd rfl rfl) rfl rfl rfl) ?_
 refine p1 (ok_pickF rfl rfl bd rfl rfl rfl) ?_
 refine ml rfl rfl bd rfl ?_
 refine RV.step1 (OpOk.yes (ok_load rfl rfl bd rfl rfl rfl ty_int) rfl rfl rfl) ?_
 refine RV.step1 (OpOk.yes (ok_load rfl rfl bd rfl rfl rfl ty_int) rfl rfl rfl) ?_
 refine RV.step1 (OpOk.yes (ok_call (same4T_con _) rfl rfl bd Tryz.func16 rfl rfl (.cons rfl Conv.any (.cons rfl Conv.any .nil)) rfl hfr rfl) rfl rfl rfl) ?_
 refine RV.step1 (OpOk.yes (ok_not rfl rfl bd rfl) rfl rfl rfl) ?_
 refine p1 (ok_pickF rfl rfl bd rfl rfl rfl) ?_
 refine RV.done ?_
 refine CV.no rfl ?_
 refine CV.skip ?_
 refine sr rfl ?_
 refine ml rfl rfl bd rfl ?_
 refine p2 (ok_s2bR (r := 99) (by omega) u_str u_bytes u_u8 rfl rfl bd rfl rfl rfl) ?_
 refine mr rfl rfl bd rfl ?_
 refine RV.done (sr rfl ?_)
 refine ml rfl rfl bd rfl ?_
 refine ml rfl rfl bd rfl ?_
 refine ml rfl rfl bd rfl ?_
 refine p1 (ok_lenS u_bytes rfl rfl bd rfl) ?_
 refine p1 (ok_maxI (c := (((txtI x).length : Nat) : Int)) (by split <;> omega) rfl rfl bd rfl rfl) ?_
 refine p1 (ok_call (AroundN_con p (txtI x).length htp (by omega) hp1 hp2) rfl rfl bd Tryz.func19 rfl rfl (.cons rfl Conv.any (.cons rfl Conv.any .nil)) rfl hfr rfl) ?_
 refine ml rfl rfl bd rfl ?_
 refine p1 (ok_idxR (i := aroundN p (txtI x).length) (Nat.mod_lt _ htp) (by rw [byV_length]; exact Nat.le_refl _) u_bytes sz_u8 rfl rfl bd rfl rfl rfl) ?_
 refine p1 (ok_storeR (i := aroundN p (txtI x).length) (by rw [byV_length]; exact Nat.mod_lt _ htp) rfl (by show 0 < 1; decide) rfl rfl rfl rfl rfl rfl sz_u8 (.inl rfl) rfl rfl) ?_
 refine RV.done ?_
 refine CV.seq ?_
 rw [byV_set]
 refine CV.region rfl (fun _ => by kernel_rfl) ?_
 refine ml rfl rfl bd rfl ?_
 refine p1 (ok_b2sR (u := (txtI x).set (aroundN p (txtI x).length) c) (r := 99) (by rw [List.length_set]) u_bytes u_u8 u_str rfl rfl bd rfl rfl) ?_
 refine ml rfl rfl bd rfl ?_
 refine p1 (ok_call (Short_con s 60 (by decide)) rfl rfl bd Tryz.func20 rfl rfl (.cons rfl Conv.any (.cons rfl Conv.any .nil)) rfl hfr rfl) ?_
 refine ml rfl rfl bd rfl ?_
 refine p1 (ok_catT (v := [48]) (by rw [List.length_singleton]; omega) rfl rfl bd rfl rfl) ?_
 refine ml rfl rfl bd rfl ?_
 refine p1 (ok_catT (u := [45]) (by rw [List.length_singleton]; omega) rfl rfl bd rfl rfl) ?_
 refine ml rfl rfl bd rfl ?_
 refine p1 (ok_catT (u := [48]) (by rw [List.length_singleton]; omega) rfl rfl bd rfl rfl) ?_
 refine p1 (ok_litD (G := Dm.gen (lstG none (stV (txL s p c x)))) (ss := stV (txL s p c x)) (xs := [.tmp 109, .tmp 111, .tmp 113, .tmp 115, .tmp 117, _]) (lstG_Lst _ _) u_strs zs_str rfl rfl rfl stV_kind rfl rfl rfl bd (.cons rfl Conv.any (.cons rfl Conv.any (.cons rfl Conv.any (.cons rfl Conv.any (.cons rfl Conv.any (.cons rfl Conv.any .nil))))))) ?_
 refine mr rfl rfl bd rfl ?_
 refine RV.drawn (by kernel_rfl) ?_
 refine CV.seq ?_
 refine sr rfl ?_
 refine mr rfl rfl bd rfl ?_
 refine RV.done ?_
 refine CV.block ?_
 refine CV.loop (X := {k : Nat // k ≤ 6}) (fun k => [(.s 21, .av (.one (.v (.int .i64 (k.1 : Int))))), (.s 20, .av (.one (.d (Dm.gen (lstG none (stV (txL s p c x))))))), (.s 11, .av (.one (.ptr 0 0))), (.b 0, .blk 25 [(some 2, .d (Dm.int x 7))]), (.s 15, .av (.one (ZI .u8 (encI x)))), (.s 2, .av (.one (ZI .u8 b))), (.s 3, .av (.one (.v (.int .i64 p)))), (.s 4, .av (.one (.v (.int .u8 (c.toNat : Int)))))]) (fun k => 6 - k.1) ⟨0, Nat.zero_le _⟩ (Sub.mk ⟨XV.le_rfl _, XV.le_rfl _, XV.le_rfl _, XV.le_rfl _, XV.le_rfl _, XV.le_rfl _, XV.le_rfl _, XV.le_rfl _, trivial⟩ rfl rfl) (fun k => ?_)
 obtain ⟨k, hk⟩ := k
 simp only
 refine CV.seq ?_
 refine sr rfl ?_
 refine ml rfl rfl bd rfl ?_
 refine ml rfl rfl bd rfl ?_
 refine p1 (ok_lenL (m := 6) rfl u_strs rfl rfl bd rfl) ?_
 refine p1 (ok_lss rfl rfl bd rfl rfl) ?_
 refine RV.done ?_
 refine CV.cond rfl (fun h1 => ?_) (fun h1 => ?_)
 ·refine CV.skip ?_
  refine CV.seq ?_
  refine CV.block ?_
  refine sr rfl ?_
  refine ml rfl rfl bd rfl ?_
  refine ml rfl rfl bd rfl ?_
  refine p1 (ok_idxL (k := none) (i := k) (stV_at (by have : (k : Int) < 6 := (by simpa using h1); show k < 6; omega)) u_strs sz_str (by decide) rfl rfl bd rfl rfl) ?_
  refine p1 (ok_loadP ty_str (by decide) rfl rfl bd rfl) ?_
  refine p1 (ok_call (Parse_con _) rfl rfl bd Tryz.func11 rfl rfl (.cons rfl Conv.any .nil) rfl hfr rfl) ?_
  refine ml rfl rfl bd rfl ?_
  refine p1 (ok_extract rfl rfl bd rfl rfl) ?_
  refine p1 (ok_extract rfl rfl bd rfl rfl) ?_
  refine p2 (ok_alloc (i := 3) rfl rfl bd zero_int rfl rfl rfl rfl) ?_
  refine p1 (ok_store rfl rfl rfl rfl rfl rfl rfl (ty_int).2 rfl rfl rfl rfl) ?_
  refine mr rfl rfl bd rfl ?_
  refine RV.done (sr rfl ?_)
  refine ml rfl rfl bd rfl ?_
  refine ml rfl rfl bd rfl ?_
  refine p1 (ok_idxL (k := none) (i := k) (stV_at (by have : (k : Int) < 6 := (by simpa using h1); show k < 6; omega)) u_strs sz_str (by decide) rfl rfl bd rfl rfl) ?_
  refine p1 (ok_loadP ty_str (by decide) rfl rfl bd rfl) ?_
  refine p1 (ok_call (rParse_con _) rfl rfl bd Tryz.func21 rfl rfl (.cons rfl Conv.any .nil) rfl hfr rfl) ?_
  refine ml rfl rfl bd rfl ?_
  refine p1 (ok_extract rfl rfl bd rfl rfl) ?_
  refine p1 (ok_extract rfl rfl bd rfl rfl) ?_
  refine p2 (ok_alloc (i := 4) rfl rfl bd zero_int rfl rfl rfl rfl) ?_
  refine p1 (ok_store rfl rfl rfl rfl rfl rfl rfl (ty_int).2 rfl rfl rfl rfl) ?_
  refine mr rfl rfl bd rfl ?_
  refine RV.done (sr rfl ?_)
  refine ml rfl rfl bd rfl ?_
  refine ml rfl rfl bd rfl ?_
  refine p1 (ok_neqF rfl rfl rfl bd rfl rfl) ?_
  refine ml rfl rfl bd rfl ?_
  refine RV.step1 (OpOk.yes (ok_load rfl rfl bd rfl rfl rfl ty_int) rfl rfl rfl) ?_
  refine RV.step1 (OpOk.yes (ok_load rfl rfl bd rfl rfl rfl ty_int) rfl rfl rfl) ?_
  refine RV.step1 (OpOk.yes (ok_call (same4T_con _) rfl rfl bd Tryz.func16 rfl rfl (.cons rfl Conv.any (.cons rfl Conv.any .nil)) rfl hfr rfl) rfl rfl rfl) ?_
  refine RV.step1 (OpOk.yes (ok_not rfl rfl bd rfl) rfl rfl rfl) ?_
  refine p1 (ok_pickF rfl rfl bd rfl rfl rfl) ?_
  refine RV.done ?_
  refine CV.no rfl ?_
  refine CV.skip ?_
  refine CV.region rfl (fun h => nomatch h) ?_
  refine ml rfl rfl bd rfl ?_
  refine p1 (ok_add (c := ((k + 1 : Nat) : Int)) (by rw [wrapI (by omega) (by omega)]; omega) rfl rfl bd rfl rfl) ?_
  refine mr rfl rfl bd rfl ?_
  refine RV.done ?_
  have hlt : k < 6 := (by have : (k : Int) < 6 := (by simpa using h1); omega)
  exact ⟨⟨k + 1, hlt⟩, Sub.mk ⟨XV.le_rfl _, XV.le_rfl _, XV.le_rfl _, XV.le_rfl _, XV.le_rfl _, XV.le_rfl _, XV.le_rfl _, XV.le_rfl _, trivial⟩ rfl rfl, by show 6 - (k + 1) < 6 - k; omega⟩
 ·refine CV.exit ?_
  refine sr rfl ?_
  refine p2 (ok_litR (r := 150) (ss := []) (xs := []) (k := none) u_bytes zs_u8 rfl rfl rfl (by intro s hs; cases hs) (by intro s hs; cases hs) rfl rfl rfl bd trivial rfl rfl) ?_
  refine ml rfl rfl bd rfl ?_
  refine RV.step3 (OpOk.plain (ok_append (r := 150) (r' := 152) (k := none) (lst_elems (by decide) (ziV_ptrs _)) (by rw [ziV_length]; show (0 + _) * 1 ≤ _; omega) (by rw [ziV_length]; show 0 + _ ≤ _; omega) u_bytes inf_u8 rfl rfl rfl (ziV_plain _) rfl rfl rfl bd rfl rfl rfl rfl rfl rfl rfl rfl) rfl) ?_
  refine mr rfl rfl bd rfl ?_
  refine RV.done ?_
  refine CV.seq ?_
  rw [List.nil_append, ziV_length, show ([] : List (SA Dm)).length + (encI x).length = (encI x).length from Nat.zero_add _]
  refine CV.region rfl (fun h => nomatch h) ?_
  refine ml rfl rfl bd rfl ?_
  refine ml rfl rfl bd rfl ?_
  refine ml rfl rfl bd rfl ?_
  refine p1 (ok_lenS u_bytes rfl rfl bd rfl) ?_
  refine p1 (ok_maxI (c := (((encI x).length : Nat) : Int)) (by split <;> omega) rfl rfl bd rfl rfl) ?_
  refine p1 (ok_call (AroundN_con p (encI x).length (by omega) (by omega) hp1 hp2) rfl rfl bd Tryz.func19 rfl rfl (.cons rfl Conv.any (.cons rfl Conv.any .nil)) rfl hfr rfl) ?_
  refine ml rfl rfl bd rfl ?_
  refine p1 (ok_idxR (i := aroundN p (encI x).length) (Nat.mod_lt _ (by omega)) (by rw [ziV_length]; exact Nat.le_refl _) u_bytes sz_u8 rfl rfl bd rfl rfl rfl) ?_
  refine p1 (ok_storeR (i := aroundN p (encI x).length) (by rw [ziV_length]; exact Nat.mod_lt _ (by omega)) rfl (by show 0 < 1; decide) rfl rfl rfl rfl rfl rfl sz_u8 (.inl rfl) rfl rfl) ?_
  refine RV.done ?_
  refine CV.seq ?_
  rw [ziV_set]
  refine CV.freeze (r := 152) (t := 26) (G := Dm.gen (lstG none (ziV .u8 ((encI x).set (aroundN p (encI x).length) (c.toNat : Int))))) (cx.bw hfr) rfl rfl (by rw [ziV_length, List.length_set]) rfl rfl (lstG_Lst none _) (lstG_Lst0 none _) ?_
  refine CV.region rfl (fun _ => by kernel_rfl) ?_
  refine ml rfl rfl bd rfl ?_
  refine ml rfl rfl bd rfl ?_
  refine p1 (ok_call (Few_con b 60 (by decide)) rfl rfl bd Tryz.func14 rfl rfl (.cons rfl Conv.any (.cons rfl Conv.any .nil)) rfl hfr rfl) ?_
  refine ml rfl rfl bd rfl ?_
  refine ml rfl rfl bd rfl ?_
  refine p1 (ok_lenL (ziV_length _) u_bytes rfl rfl bd rfl) ?_
  refine p1 (ok_sub (c := (((encI x).length - 1 : Nat) : Int)) (by rw [wrapI (by omega) (by omega)]; omega) rfl rfl bd rfl rfl) ?_
  refine p1 (ok_maxI (c := (((encI x).length - 1 : Nat) : Int)) (by split <;> omega) rfl rfl bd rfl rfl) ?_
  refine p1 (ok_cutL (k := none) (l' := ziV .u8 ((encI x).take ((encI x).length - 1))) none (some ((encI x).length - 1)) none (by show ((ziV .u8 (encI x)).take ((encI x).length - 1)).drop 0 = _; rw [List.drop_zero, ziV_take]) (by decide) (Nat.zero_le _) (by show (encI x).length - 1 ≤ (ziV .u8 (encI x)).length; rw [ziV_length]; omega) (Nat.le_refl _) (fun h => nomatch h) u_bytes sz_u8 rfl rfl bd rfl trivial rfl trivial) ?_
  refine p1 (ok_litD (G := Dm.gen (lstG none (ziV .i64 [1]))) (ss := ziV .i64 [1]) (xs := [_]) (lstG_Lst none _) u_ints zs_i64 rfl rfl rfl (by intro s hs; obtain rfl := List.mem_singleton.1 hs; rfl) rfl rfl rfl bd (.cons rfl Conv.any .nil)) ?_
  refine p1 (ok_callRowD (G := Dm.gen (lstG none (ziV .u8 (W.encInts [1])))) (refInts_con [1] (by intro z hz; obtain rfl := List.mem_singleton.1 hz; decide) (by decide)) (ziV_vals _) (lstG_Lst none _) (lstG_Lst0 none _) rfl rfl bd Tryz.func22 rfl rfl (.cons rfl Conv.any .nil)) ?_
  refine p1 (ok_litD (G := Dm.gen (lstG none (ziV .i64 [0, 5]))) (ss := ziV .i64 [0, 5]) (xs := [_, _]) (lstG_Lst none _) u_ints zs_i64 rfl rfl rfl (by intro s hs; obtain ⟨b, _, rfl⟩ := List.mem_map.1 hs; rfl) rfl rfl rfl bd (.cons rfl Conv.any (.cons rfl Conv.any .nil))) ?_
  refine p1 (ok_callRowD (G := Dm.gen (lstG none (ziV .u8 (W.encInts [0, 5])))) (refInts_con [0, 5] (by decide) (by decide)) (ziV_vals _) (lstG_Lst none _) (lstG_Lst0 none _) rfl rfl bd Tryz.func22 rfl rfl (.cons rfl Conv.any .nil)) ?_
  refine p1 (ok_callRowD (G := Dm.gen (lstG none (ziV .u8 (W.encInts [])))) (refInts_con [] (by decide) (by decide)) (ziV_vals _) (lstG_Lst none _) (lstG_Lst0 none _) rfl rfl bd Tryz.func22 rfl rfl (.cons rfl ⟨rfl, nil_zi⟩ .nil)) ?_
  refine p1 (ok_litD (G := Dm.gen (lstG none (zbV (cdL b p c x)))) (ss := zbV (cdL b p c x)) (xs := [.tmp 161, .tmp 163, .tmp 169, .tmp 171, .tmp 173, .tmp 174]) (lstG_Lst _ _) u_lbytes zs_bytes rfl rfl rfl zbV_kind rfl rfl rfl bd (.cons rfl Conv.any (.cons rfl Conv.any (.cons rfl Conv.any (.cons rfl Conv.any (.cons rfl Conv.any (.cons rfl Conv.any .nil))))))) ?_
  refine mr rfl rfl bd rfl ?_
  refine RV.drawn (by kernel_rfl) ?_
  refine CV.seq ?_
  refine sr rfl ?_
  refine mr rfl rfl bd rfl ?_
  refine RV.done ?_
  refine CV.block ?_
  refine CV.loop (X := {k : Nat // k ≤ 6}) (fun k => [(.s 28, .av (.one (.v (.int .i64 (k.1 : Int))))), (.s 27, .av (.one (.d (Dm.gen (lstG none (zbV (cdL b p c x)))))))]) (fun k => 6 - k.1) ⟨0, Nat.zero_le _⟩ (Sub.mk ⟨XV.le_rfl _, XV.le_rfl _, trivial⟩ rfl rfl) (fun k => ?_)
  obtain ⟨k, hk⟩ := k
  simp only
  refine CV.seq ?_
  refine sr rfl ?_
  refine ml rfl rfl bd rfl ?_
  refine ml rfl rfl bd rfl ?_
  refine p1 (ok_lenL (m := 6) rfl u_lbytes rfl rfl bd rfl) ?_
  refine p1 (ok_lss rfl rfl bd rfl rfl) ?_
  refine RV.done ?_
  refine CV.cond rfl (fun h2 => ?_) (fun h2 => ?_)
  ·refine CV.skip ?_
   refine CV.seq ?_
   refine CV.block ?_
   refine sr rfl ?_
   refine ml rfl rfl bd rfl ?_
   refine ml rfl rfl bd rfl ?_
   refine p1 (ok_idxL (k := none) (i := k) (zbV_at (by have : (k : Int) < 6 := (by simpa using h2); show k < 6; omega)) u_lbytes sz_bytes (by decide) rfl rfl bd rfl rfl) ?_
   refine p1 (ok_loadP ty_bytes (by decide) rfl rfl bd rfl) ?_
   refine p1 (ok_call (Decode_con _ (cdL_ok b p c x hb hxl (k := k) (by have : (k : Int) < 6 := (by simpa using h2); omega)).1 (cdL_ok b p c x hb hxl (k := k) (by have : (k : Int) < 6 := (by simpa using h2); omega)).2) rfl rfl bd Tryz.func13 rfl rfl (.cons rfl Conv.any .nil) rfl hfr rfl) ?_
   refine ml rfl rfl bd rfl ?_
   refine p1 (ok_extract rfl rfl bd rfl rfl) ?_
   refine p1 (ok_extract rfl rfl bd rfl rfl) ?_
   refine p1 (ok_extract rfl rfl bd rfl rfl) ?_
   refine p2 (ok_alloc (i := 3) rfl rfl bd zero_int rfl rfl rfl rfl) ?_
   refine p1 (ok_store rfl rfl rfl rfl rfl rfl rfl (ty_int).2 rfl rfl rfl rfl) ?_
   refine mr rfl rfl bd rfl ?_
   refine mr rfl rfl bd rfl ?_
   refine RV.done (sr rfl ?_)
   refine ml rfl rfl bd rfl ?_
   refine ml rfl rfl bd rfl ?_
   refine p1 (ok_idxL (k := none) (i := k) (zbV_at (by have : (k : Int) < 6 := (by simpa using h2); show k < 6; omega)) u_lbytes sz_bytes (by decide) rfl rfl bd rfl rfl) ?_
   refine p1 (ok_loadP ty_bytes (by decide) rfl rfl bd rfl) ?_
   refine p1 (ok_call (rDecode_con _ (cdL_ok b p c x hb hxl (k := k) (by have : (k : Int) < 6 := (by simpa using h2); omega)).1 (cdL_ok b p c x hb hxl (k := k) (by have : (k : Int) < 6 := (by simpa using h2); omega)).2) rfl rfl bd Tryz.func23 rfl rfl (.cons rfl Conv.any .nil) rfl hfr rfl) ?_
   refine ml rfl rfl bd rfl ?_
   refine p1 (ok_extract rfl rfl bd rfl rfl) ?_
   refine p1 (ok_extract rfl rfl bd rfl rfl) ?_
   refine p1 (ok_extract rfl rfl bd rfl rfl) ?_
   refine p2 (ok_alloc (i := 4) rfl rfl bd zero_int rfl rfl rfl rfl) ?_
   refine p1 (ok_store rfl rfl rfl rfl rfl rfl rfl (ty_int).2 rfl rfl rfl rfl) ?_
   refine mr rfl rfl bd rfl ?_
   refine mr rfl rfl bd rfl ?_
   refine RV.done (sr rfl ?_)
   refine ml rfl rfl bd rfl ?_
   refine ml rfl rfl bd rfl ?_
   refine p1 (ok_neqF rfl rfl rfl bd rfl rfl) ?_
   refine ml rfl rfl bd rfl ?_
   refine RV.step1 (OpOk.yes (ok_move (.inl rfl) rfl bd rfl) rfl rfl rfl) ?_
   refine RV.step1 (OpOk.yes (ok_move (.inl rfl) rfl bd rfl) rfl rfl rfl) ?_
   refine RV.step1 (OpOk.yes (ok_neqF rfl rfl rfl bd rfl rfl) rfl rfl rfl) ?_
   refine p1 (ok_pickF rfl rfl bd rfl rfl rfl) ?_
   refine ml rfl rfl bd rfl ?_
   refine RV.step1 (OpOk.yes (ok_load rfl rfl bd rfl rfl rfl ty_int) rfl rfl rfl) ?_
   refine RV.step1 (OpOk.yes (ok_load rfl rfl bd rfl rfl rfl ty_int) rfl rfl rfl) ?_
   refine RV.step1 (OpOk.yes (ok_call (same4T_con _) rfl rfl bd Tryz.func16 rfl rfl (.cons rfl Conv.any (.cons rfl Conv.any .nil)) rfl hfr rfl) rfl rfl rfl) ?_
   refine RV.step1 (OpOk.yes (ok_not rfl rfl bd rfl) rfl rfl rfl) ?_
   refine p1 (ok_pickF rfl rfl bd rfl rfl rfl) ?_
   refine RV.done ?_
   refine CV.no rfl ?_
   refine CV.skip ?_
   refine CV.region rfl (fun h => nomatch h) ?_
   refine ml rfl rfl bd rfl ?_
   refine p1 (ok_add (c := ((k + 1 : Nat) : Int)) (by rw [wrapI (by omega) (by omega)]; omega) rfl rfl bd rfl rfl) ?_
   refine mr rfl rfl bd rfl ?_
   refine RV.done ?_
   have hlt : k < 6 := (by have : (k : Int) < 6 := (by simpa using h2); omega)
   exact ⟨⟨k + 1, hlt⟩, Sub.mk ⟨XV.le_rfl _, XV.le_rfl _, trivial⟩ rfl rfl, by show 6 - (k + 1) < 6 - k; omega⟩
  ·refine CV.exit ?_
   refine sr rfl ?_
   refine p2 (ok_make (r := 214) (m := 65537) (c := 65537) (k := none) (by decide) (by decide) (by decide) u_bytes inf_u8 rfl rfl rfl rfl bd rfl rfl rfl rfl rfl) ?_
   refine mr rfl rfl bd rfl ?_
   refine RV.done ?_
   refine CV.seq ?_
   refine CV.seq ?_
   obtain ⟨M, hM⟩ : ∃ M : Nat, M = 65537 := ⟨_, rfl⟩
   rw [← hM]
   refine CV.region rfl (fun h => nomatch h) ?_
   refine mr rfl rfl bd rfl ?_
   refine RV.done ?_
   refine CV.block ?_
   refine CV.loop (X := {k : Nat // k ≤ M}) (fun k => [(.s 36, .av (.one (.v (.int .i64 (k.1 : Int))))), (.s 35, .av (.one (.sl 214 M))), (.b 214, .row 5 none (List.replicate k.1 (.v (.int .u8 55)) ++ List.replicate (M - k.1) (.v (.int .u8 0))))]) (fun k => M - k.1) ⟨0, Nat.zero_le _⟩ (Sub.mk ⟨XV.le_rfl _, XV.le_rfl _, XV.le_row (rep0 M _ _), trivial⟩ rfl rfl) (fun k => ?_)
   obtain ⟨k, hk⟩ := k
   simp only
   refine CV.seq ?_
   refine sr rfl ?_
   refine ml rfl rfl bd rfl ?_
   refine ml rfl rfl bd rfl ?_
   refine p1 (ok_lenS u_bytes rfl rfl bd rfl) ?_
   refine p1 (ok_lss rfl rfl bd rfl rfl) ?_
   refine RV.done ?_
   refine CV.cond rfl (fun h3 => ?_) (fun h3 => ?_)
   ·refine CV.skip ?_
    refine CV.seq ?_
    refine CV.block ?_
    refine CV.region rfl (fun h => nomatch h) ?_
    refine ml rfl rfl bd rfl ?_
    refine ml rfl rfl bd rfl ?_
    refine p1 (ok_idxR (i := k) (by have : (k : Int) < M := (by simpa using h3); omega) (by rw [List.length_append, List.length_replicate, List.length_replicate]; omega) u_bytes sz_u8 rfl rfl bd rfl rfl rfl) ?_
    refine p1 (ok_storeR (i := k) (by have : (k : Int) < M := (by simpa using h3); rw [List.length_append, List.length_replicate, List.length_replicate]; omega) rfl (by show 0 < 1; decide) rfl rfl rfl rfl rfl rfl sz_u8 (.inl rfl) rfl rfl) ?_
    refine RV.done ?_
    refine CV.region rfl (fun h => nomatch h) ?_
    refine ml rfl rfl bd rfl ?_
    refine p1 (ok_add (c := ((k + 1 : Nat) : Int)) (by rw [wrapI (by omega) (by omega)]; omega) rfl rfl bd rfl rfl) ?_
    refine mr rfl rfl bd rfl ?_
    refine RV.done ?_
    have hlt : k < M := (by have : (k : Int) < M := (by simpa using h3); omega)
    exact ⟨⟨k + 1, hlt⟩, Sub.mk ⟨XV.le_rfl _, XV.le_rfl _, XV.le_row (rep_step _ _ hlt), trivial⟩ rfl rfl, by show M - (k + 1) < M - k; omega⟩
   ·refine CV.exit ?_
    refine CV.seq ?_
    have hkM : k = M := (by have : ¬ (k : Int) < M := (by simpa using h3); omega)
    subst hkM
    rw [rep_by]
    refine CV.region rfl (fun h => nomatch h) ?_
    refine ml rfl rfl bd rfl ?_
    refine p1 (ok_b2sR (u := List.replicate k 55) (r := 214) (by rw [List.length_replicate]) u_bytes u_u8 u_str rfl rfl bd rfl rfl) ?_
    refine p1 (ok_call (ParseLimit_con _ (by rw [List.length_replicate, hM]; decide)) rfl rfl bd Tryz.func11 rfl rfl (.cons rfl Conv.any .nil) rfl hfr rfl) ?_
    refine ml rfl rfl bd rfl ?_
    refine p1 (ok_extract rfl rfl bd rfl rfl) ?_
    refine p1 (ok_extract rfl rfl bd rfl rfl) ?_
    refine p2 (ok_alloc (i := 3) rfl rfl bd zero_int rfl rfl rfl rfl) ?_
    refine p1 (ok_store rfl rfl rfl rfl rfl rfl rfl (ty_int).2 rfl rfl rfl rfl) ?_
    refine mr rfl rfl bd rfl ?_
    refine RV.done (sr rfl ?_)
    refine ml rfl rfl bd rfl ?_
    refine p1 (ok_eqlT rfl rfl rfl bd rfl rfl) ?_
    refine ml rfl rfl bd rfl ?_
    refine RV.step1 (OpOk.yes (ok_call (lives4_con) rfl rfl bd Tryz.func24 rfl rfl .nil rfl hfr rfl) rfl rfl rfl) ?_
    refine p1 (ok_pickT rfl rfl bd rfl rfl rfl) ?_
    refine mr rfl rfl bd rfl ?_
    refine RV.done ?_
    refine CV.ret ?_
    exact fin1 rfl (.inr rfl) rfl is_rfl
end
end Vc
end Go.Proofs.YtpgiebimhnhbiaaGreatDoor
