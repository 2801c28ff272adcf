/-
  Decode of package integer and of the reference, for any bytes.
  IntegerTexts: what the law calls besides, and the law's walk.
  RatTexts: the contracts that the law calls besides.
  RatTexts: small integers made while rows are open; the law's walk.
-/
import Derived.Test.YtpgiebimhnhbiaaGreatDoorJT12
import Derived.Test.YtpgiebimhnhbiaaGreatDoorJT44
import Derived.Test.YtpgiebimhnhbiaaGreatDoorJT17
import Derived.Test.YtpgiebimhnhbiaaGreatDoorJT22
import Derived.Test.YtpgiebimhnhbiaaGreatDoorJT42
set_option linter.unusedVariables false
set_option linter.unusedSimpArgs false
set_option linter.unusedSectionVars false
namespace Go.Proofs.YtpgiebimhnhbiaaGreatDoor
open Go.RowKit
open Go.Lib (hid)
open Dg Zn Tx
namespace Vc
set_option maxRecDepth 100000

theorem is_tri {s s' : SA Dm} {u u' t t' : Value} (h : ∀ L ρ w v, s.is L ρ w v → s'.is L ρ w v) (hu : u = u') (ht : t = t') : ∀ L ρ w v, (AV.tup [s, .v u, .v t]).is L ρ w v → (AV.tup [s', .v u', .v t']).is L ρ w v := by
 subst hu ht
 rintro L ρ w v ⟨vs, rfl, hall⟩
 match vs, hall with
 | [a, b, c], ⟨k1, k2, k3, _⟩ => exact ⟨[a, b, c], rfl, h _ _ _ _ k1, k2, k3, trivial⟩
theorem row_is {L : Nat → Prop} {ρ : Rho} {w : World} {v : Value} {zs : List Int} (h : Row .i64 w v zs) (hn : NoInt L w) : (ZI .i64 zs).is L ρ w v := by
 intro w' hag
 obtain ⟨ao, cap, h1, h2, h3, h4⟩ := h
 refine row_at ⟨ao, cap, h1, h2, h3, fun hl => ?_⟩
 obtain ⟨b, off, h5, h6⟩ := h4 hl
 exact ⟨b, off, h5, fun i hi => cell_agree hn hag (h6 i hi)⟩
theorem byte_view {w : World} {v : Value} {bs : List Int} (hb : W.Bs bs) (h : Row .u8 w v bs) : ByteView w v bs := by
 obtain ⟨ao, cap, h1, h2, h3, h4⟩ := h
 exact ⟨hb, ao, cap, h1, h2, h3, fun hne => h4 (List.length_pos_iff.2 hne)⟩
theorem map_flat (l : List Int) : l.map (Value.int .i64) = l.flatMap fun x => [Value.int .i64 x] := by
 induction l with
 | nil => rfl
 | cons a l ih => rw [List.map_cons, List.flatMap_cons, ih]; rfl
theorem listed_con {f : FuncId} {bs : List Int} {l : List Int} {u : Nat} {e : Int} (hq : W.decList W.dec 1 bs = (l, u, e)) (h : ∀ v w, Row .u8 w v bs → Calls Tryz.prog f #[v] w (Listed w 3 1 (fun x => [Value.int .i64 x]) (W.decList W.dec 1 bs))) :
  Con Tryz.prog f [ZI .u8 bs] (.tup [ZI .i64 l, .v (.int .i64 (u : Int)), .v (.int .i64 e)]) := by
 rintro L ρ w vs hlt hn hwf hall
 match vs, hall with
 | [v], ⟨h1, _⟩ =>
  refine (h v w (zi_row h1)).mono ?_
  rw [hq]
  rintro e w' ⟨hbel, x, rfl, hown⟩
  have hrow : Row .i64 w' x l := Row.of_owns (by rw [map_flat]; exact hown)
  exact ⟨_, rfl, hbel, ⟨[_, _, _], rfl, row_is hrow (noInt_below hn hlt hbel), rfl, rfl, trivial⟩⟩
theorem GetInts_con (bs : List Int) (hb : W.Bs bs) (hl : bs.length ≤ 1099511627776) {l : List Int} {u : Nat} {e : Int} (hq : W.decList W.dec 1 bs = (l, u, e)) : Con Tryz.prog 89 [ZI .u8 bs] (.tup [ZI .i64 l, .v (.int .i64 (u : Int)), .v (.int .i64 e)]) :=
 listed_con hq fun v w h => GetInts_any v bs w (byte_view hb h) hl
theorem rGetInts_con (bs : List Int) (hb : W.Bs bs) (hl : bs.length ≤ 1099511627776) {l : List Int} {u : Nat} {e : Int} (hq : W.decList W.dec 1 bs = (l, u, e)) : Con Tryz.prog 94 [ZI .u8 bs] (.tup [ZI .i64 l, .v (.int .i64 (u : Int)), .v (.int .i64 e)]) :=
 listed_con hq fun v w h => refGetInts_any v bs w (byte_view hb h) hl
theorem raw_cells {b : Bool} {zs : List Int} {w : World} {cs : List Value} (h : Dm.at (.gen (rawG b zs)) w (.agg cs.toArray)) : ∃ a n c, cs = [.bool b, .slice a n c] ∧ Row .i64 w (.slice a n c) zs := by
 obtain ⟨s, h1, h2⟩ := h
 obtain ⟨a, n, c, rfl⟩ := row_slice h2
 injection h1 with h1
 exact ⟨a, n, c, by simpa using congrArg Array.toList h1, h2⟩
theorem fld_rawneg {b : Bool} {zs : List Int} : Fld (Dm.gen (rawG b zs)) 0 none (.v (.bool b)) := by
 intro w cs h
 obtain ⟨a, n, c, rfl, hs⟩ := raw_cells h
 exact ⟨[], [_], [_], _, rfl, rfl, ⟨rfl, rfl⟩, rfl⟩
theorem fld_rawdig {b : Bool} {zs : List Int} : Fld (Dm.gen (rawG b zs)) 1 none (ZI .i64 zs) := by
 intro w cs h
 obtain ⟨a, n, c, rfl, hs⟩ := raw_cells h
 exact ⟨[_], [_], [], _, rfl, rfl, ⟨rfl, rfl⟩, row_at hs⟩
theorem raw_int {b : Bool} {zs : List Int} {z : Int} {k : Nat} (h1 : decide (z < 0) = b) (h2 : (dig z.natAbs).map Int.ofNat = zs) (hk : len z ≤ k) : ∀ L ρ w v, (SA.d (Dm.gen (rawG b zs))).is L ρ w v → (SA.d (Dm.int z k)).is L ρ w v := by
 subst h1 h2
 intro L ρ w v h w' hw
 obtain ⟨s, e, hs⟩ := h w' hw
 exact ⟨⟨s, e, nums_of_row hs⟩, hk⟩
theorem zi_dl {ds : List Nat} {zs : List Int} (h : ds.map Int.ofNat = zs) : ∀ L ρ w v, (ZI .i64 zs).is L ρ w v → (SA.d (Dm.dl ds)).is L ρ w v := by
 subst h
 intro L ρ w v h w' hw
 exact nums_of_row (row_of_at (h w' hw))
theorem cmp0 (z : Int) : (cmpI z 0 < 0 ↔ z < 0) ∧ (cmpI z 0 = -1 ↔ z < 0) := by
 unfold cmpI
 split
 ·simp; omega
 ·split
  ·simp; omega
  ·simp; omega
theorem dec_bad {l : List Int} {b : Bool} (hv : validI b (l.drop 1) = false) (hb : ∀ z, cmpI z 0 = l.getD 0 0 → decide (z < 0) = b) : ¬ row0 (zOf l) = l := by
 intro h
 have h1 : l.getD 0 0 = cmpI (zOf l) 0 := by rw [← h, zOf_row0]; rfl
 have h2 : l.drop 1 = (dig (zOf l).natAbs).map Int.ofNat := by
  conv => lhs; rw [← h]
  rfl
 rw [h2, ← hb _ h1.symm, valid_dig] at hv
 cases hv
theorem dec_diff {l : List Int} {z : Int} (hz : (dig z.natAbs).map Int.ofNat = l.drop 1) (hb : ∀ y, cmpI y 0 = l.getD 0 0 → decide (y < 0) = decide (z < 0)) (hs : ¬ cmpI z 0 = l.getD 0 0) : ¬ row0 (zOf l) = l := by
 intro h
 have h1 : l.getD 0 0 = cmpI (zOf l) 0 := by rw [← h, zOf_row0]; rfl
 have h2 : l.drop 1 = (dig (zOf l).natAbs).map Int.ofNat := by
  conv => lhs; rw [← h]
  rfl
 have h3 := hb _ h1.symm
 have h4 : dig z.natAbs = dig (zOf l).natAbs := (List.map_inj_right (fun x y e => by injection e)).1 (hz.trans h2)
 have h5 : z.natAbs = (zOf l).natAbs := by rw [← val_dig z.natAbs, h4, val_dig]
 have h6 : z = zOf l := by
  have : (zOf l < 0) ↔ (z < 0) := by simpa using h3
  omega
 rw [h1, ← h6] at hs
 exact hs rfl
theorem dec_same {l : List Int} {z : Int} (hne : l ≠ []) (hz : (dig z.natAbs).map Int.ofNat = l.drop 1) (hs : cmpI z 0 = l.getD 0 0) : row0 (zOf l) = l ∧ zOf l = z := by
 have e : l = row0 z := by
  unfold row0
  rw [hz, hs]
  cases l with
  | nil => exact absurd rfl hne
  | cons a l => rfl
 exact row0_inj e
theorem decI_err {bs l : List Int} {u : Nat} {e : Int} (hq : W.decList W.dec 1 bs = (l, u, e)) (h : e ≠ 0) : decI bs = (0, 0, e) := by
 unfold decI
 rw [hq, if_pos h]
theorem decI_bad {bs l : List Int} {u : Nat} {e : Int} (hq : W.decList W.dec 1 bs = (l, u, e)) (h0 : e = 0) (h : ¬ row0 (zOf l) = l) : decI bs = (0, 0, 2) := by
 subst h0
 unfold decI
 rw [hq, if_neg (by simp), if_neg h]
theorem decI_ok {bs l : List Int} {u : Nat} {e z : Int} (hq : W.decList W.dec 1 bs = (l, u, e)) (h0 : e = 0) (h : row0 (zOf l) = l ∧ zOf l = z) : decI bs = (z, u, 0) := by
 subst h0
 unfold decI
 rw [hq, if_neg (by simp)]
 simp only
 rw [if_pos h.1, h.2]
theorem is_dec {bs : List Int} {z : Int} {u : Nat} {e : Int} {k : Nat} (h : decI bs = (z, u, e)) : ∀ L ρ w v, (AV.tup [.d (Dm.int z k), .v (.int .i64 (u : Int)), .v (.int .i64 e)]).is L ρ w v → (AV.tup [.d (Dm.int (decI bs).1 k), .v (.int .i64 ((decI bs).2.1 : Nat)), .v (.int .i64 (decI bs).2.2)]).is L ρ w v := by
 rw [h]
 exact fun _ _ _ _ h => h
theorem is_decz {bs : List Int} {e : Int} {j k : Nat} (h : decI bs = (0, 0, e)) : ∀ L ρ w v, (AV.tup [.d (Dm.int 0 j), .v (.int .i64 0), .v (.int .i64 e)]).is L ρ w v → (AV.tup [.d (Dm.int (decI bs).1 k), .v (.int .i64 ((decI bs).2.1 : Nat)), .v (.int .i64 (decI bs).2.2)]).is L ρ w v := by
 rw [h]
 exact is_tri (is_lenle (by show (dig 0).length ≤ _; rw [dig_zero]; exact Nat.zero_le _)) rfl rfl

section
variable (bs : List Int) (hb : W.Bs bs) (hl : bs.length ≤ 1000)
include hb hl
theorem Decode_con : Con Tryz.prog 13 [ZI .u8 bs] (.tup [.d (Dm.int (decI bs).1 1000), .v (.int .i64 ((decI bs).2.1 : Nat)), .v (.int .i64 (decI bs).2.2)]) := by
 have hlen := decList_len hb
 rcases hq : W.decList W.dec 1 bs with ⟨l, u, e⟩
 rw [hq] at hlen
 simp only at hlen
 refine Con.of (n := 48) Tryz.func13 rfl rfl rfl rfl rfl fun cx hfr => ?_
 refine sr rfl ?_
 refine p2 (ok_alloc (i := 0) rfl rfl bd zero_int rfl rfl rfl rfl) ?_
 refine mr rfl rfl bd rfl ?_
 refine mr rfl rfl bd rfl ?_
 refine RV.done (sr rfl ?_)
 refine ml rfl rfl bd rfl ?_
 refine p1 (ok_call (GetInts_con bs hb (by omega) hq) rfl rfl bd Tryz.func89 rfl rfl (.cons rfl Conv.any .nil) rfl hfr rfl) ?_
 refine ml rfl rfl bd rfl ?_
 refine p1 (ok_extract rfl rfl bd rfl rfl) ?_
 refine p1 (ok_extract rfl rfl bd rfl rfl) ?_
 refine p1 (ok_extract rfl rfl bd rfl rfl) ?_
 refine mr rfl rfl bd rfl ?_
 refine mr rfl rfl bd rfl ?_
 refine mr rfl rfl bd rfl ?_
 refine RV.done ?_
 refine CV.seq ?_
 refine sr rfl ?_
 refine ml rfl rfl bd rfl ?_
 refine p1 (ok_neq rfl rfl bd rfl rfl) ?_
 refine RV.done ?_
 refine CV.cond rfl (fun he => ?_) (fun he => ?_)
 ·refine sr rfl ?_
  refine p1 (ok_buildI rfl rfl bd) ?_
  refine ml rfl rfl bd rfl ?_
  refine p1 (ok_store rfl rfl rfl rfl rfl rfl rfl (ty_int).2 rfl rfl rfl rfl) ?_
  refine mr rfl rfl bd rfl ?_
  refine mr rfl rfl bd rfl ?_
  refine RV.done ?_
  refine CV.ret ?_
  exact fin3 rfl (.inr rfl) ⟨_, _, _, _, _, rfl, rfl, rfl, ty_int⟩ rfl rfl (is_decz (decI_err hq (by simpa using he)))
 ·refine CV.skip ?_
  refine CV.seq ?_
  refine sr rfl ?_
  refine ml rfl rfl bd rfl ?_
  refine p1 (ok_lenL (ziV_length _) u_ints rfl rfl bd rfl) ?_
  refine p1 (ok_eql rfl rfl bd rfl rfl) ?_
  refine RV.done ?_
  refine CV.cond rfl (fun hn => ?_) (fun hn => ?_)
  ·refine sr rfl ?_
   refine p1 (ok_buildI rfl rfl bd) ?_
   refine p1 (ok_store rfl rfl rfl rfl rfl rfl rfl (ty_int).2 rfl rfl rfl rfl) ?_
   refine mr rfl rfl bd rfl ?_
   refine mr rfl rfl bd rfl ?_
   refine RV.done ?_
   refine CV.ret ?_
   have hne : l = [] := (by simpa using hn)
   exact fin3 rfl (.inr rfl) ⟨_, _, _, _, _, rfl, rfl, rfl, ty_int⟩ rfl rfl (is_decz (decI_bad hq (by simpa using he) (by rw [hne]; exact fun h => nomatch h)))
  ·have hne : l ≠ [] := (by rintro rfl; simp at hn)
   have hpos : 0 < l.length := List.length_pos_iff.2 hne
   have he0 : e = 0 := (by simpa using he)
   refine CV.skip ?_
   refine CV.seq ?_
   refine CV.region rfl (fun _ => by kernel_rfl) ?_
   refine ml rfl rfl bd rfl ?_
   refine p1 (ok_idxL (k := none) (i := 0) (ziV_at hpos) u_ints sz_i64 (by decide) rfl rfl bd rfl rfl) ?_
   refine p1 (ok_loadP ty_i64 (by decide) rfl rfl bd rfl) ?_
   refine p1 (ok_lssB rfl rfl rfl bd rfl rfl) ?_
   refine ml rfl rfl bd rfl ?_
   refine p1 (ok_cutL (k := none) (l' := ziV .i64 (l.drop 1)) (some 1) none none (by show ((ziV .i64 l).take (ziV .i64 l).length).drop 1 = _; rw [List.take_length, ziV_drop]) (by decide) (by rw [ziV_length]; exact hpos) (Nat.le_refl _) (Nat.le_refl _) (fun _ => rfl) u_ints sz_i64 rfl rfl bd rfl rfl trivial trivial) ?_
   refine p1 (ok_braw rfl rfl bd rfl rfl) ?_
   refine p2 (ok_alloc (i := 1) rfl rfl bd zero_int rfl rfl rfl rfl) ?_
   refine p1 (ok_store rfl rfl rfl rfl rfl rfl rfl (ty_int).2 rfl rfl rfl rfl) ?_
   refine RV.drawn (by kernel_rfl) ?_
   refine CV.seq ?_
   refine CV.seq ?_
   refine CV.region rfl (fun _ => by kernel_rfl) ?_
   refine p1 (ok_load rfl rfl bd rfl rfl rfl ty_int) ?_
   refine p1 (ok_call (VRaw_con _ _ _ rfl) rfl rfl bd Tryz.func90 rfl rfl (.cons rfl Conv.any .nil) rfl hfr rfl) ?_
   refine p1 (ok_not rfl rfl bd rfl) ?_
   refine ml rfl rfl bd rfl ?_
   refine RV.bool (fun hv => ?_) (fun hv => ?_)
   ·refine RV.step1 (OpOk.skip rfl rfl rfl rfl rfl bd) ?_
    refine RV.step1 (OpOk.skip rfl rfl rfl rfl rfl bd) ?_
    refine RV.step1 (OpOk.skip rfl rfl rfl rfl rfl bd) ?_
    refine RV.step1 (OpOk.skip rfl rfl rfl rfl rfl bd) ?_
    refine RV.step1 (OpOk.skip rfl rfl rfl rfl rfl bd) ?_
    refine RV.step1 (OpOk.skip rfl rfl rfl rfl rfl bd) ?_
    refine p1 (ok_pickT rfl rfl bd rfl rfl rfl) ?_
    refine RV.drawn (by kernel_rfl) ?_
    refine CV.yes rfl ?_
    refine sr rfl ?_
    refine p1 (ok_buildI rfl rfl bd) ?_
    refine p1 (ok_store rfl rfl rfl rfl rfl rfl rfl (ty_int).2 rfl rfl rfl rfl) ?_
    refine mr rfl rfl bd rfl ?_
    refine mr rfl rfl bd rfl ?_
    refine RV.done ?_
    refine CV.ret ?_
    exact fin3 rfl (.inr rfl) ⟨_, _, _, _, _, rfl, rfl, rfl, ty_int⟩ rfl rfl (is_decz (decI_bad hq he0 (dec_bad (b := decide (l.getD 0 0 < 0)) (by simpa using hv) (fun z h => by rw [← h, decide_eq_decide]; exact (cmp0 z).1.symm))))
   ·obtain ⟨z, hz1, hz2⟩ := valid_int (b := decide (l.getD 0 0 < 0)) (zs := l.drop 1) (by simpa using hv)
    have hzl : len z ≤ 1000 := (by have := congrArg List.length hz2; rw [List.length_map, List.length_drop] at this; show (dig z.natAbs).length ≤ _; omega)
    refine RV.step1 (OpOk.yes (ok_load rfl rfl bd rfl rfl rfl ty_int) rfl rfl rfl) ?_
    refine RV.step1 (OpOk.yes (ok_callF (SignF_con z (j := 1000)) rfl rfl bd Tryz.func88 rfl rfl (.cons rfl ⟨rfl, raw_int hz1 hz2 hzl⟩ .nil) rfl) rfl rfl rfl) ?_
    refine RV.step1 (OpOk.yes (ok_move (.inl rfl) rfl bd rfl) rfl rfl rfl) ?_
    refine RV.step1 (OpOk.yes (ok_idxL (k := none) (i := 0) (ziV_at hpos) u_ints sz_i64 (by decide) rfl rfl bd rfl rfl) rfl rfl rfl) ?_
    refine RV.step1 (OpOk.yes (ok_loadP ty_i64 (by decide) rfl rfl bd rfl) rfl rfl rfl) ?_
    refine RV.step1 (OpOk.yes (ok_neq rfl rfl bd rfl rfl) rfl rfl rfl) ?_
    refine p1 (ok_pickF rfl rfl bd rfl rfl rfl) ?_
    refine RV.drawn (by kernel_rfl) ?_
    refine CV.cond rfl (fun hs => ?_) (fun hs => ?_)
    ·refine sr rfl ?_
     refine p1 (ok_buildI rfl rfl bd) ?_
     refine p1 (ok_store rfl rfl rfl rfl rfl rfl rfl (ty_int).2 rfl rfl rfl rfl) ?_
     refine mr rfl rfl bd rfl ?_
     refine mr rfl rfl bd rfl ?_
     refine RV.done ?_
     refine CV.ret ?_
     exact fin3 rfl (.inr rfl) ⟨_, _, _, _, _, rfl, rfl, rfl, ty_int⟩ rfl rfl (is_decz (decI_bad hq he0 (dec_diff hz2 (fun y h => by rw [hz1, ← h, decide_eq_decide]; exact (cmp0 y).1.symm) (by simpa using hs))))
    ·refine CV.skip ?_
     refine sr rfl ?_
     refine p1 (ok_fieldAddr fa_int0 rfl rfl bd rfl) ?_
     refine p1 (ok_loadf 0 fld_rawneg rfl rfl bd rfl rfl rfl rfl ty_bool) ?_
     refine p1 (ok_fieldAddr fa_int1 rfl rfl bd rfl) ?_
     refine p1 (ok_loadf 1 fld_rawdig rfl rfl bd rfl rfl rfl rfl ty_ints) ?_
     refine p1 (ok_call (signed_con (decide (l.getD 0 0 < 0)) (dig z.natAbs) 1000 (dig_Dig _) (by rw [val_dig, ← hz1, mk_self]; exact hzl)) rfl rfl bd Tryz.func86 rfl rfl (.cons rfl Conv.any (.cons rfl ⟨rfl, zi_dl hz2⟩ .nil)) rfl hfr rfl) ?_
     refine ml rfl rfl bd rfl ?_
     refine p1 (ok_store rfl rfl rfl rfl rfl rfl rfl (ty_int).2 rfl rfl rfl rfl) ?_
     refine mr rfl rfl bd rfl ?_
     refine mr rfl rfl bd rfl ?_
     refine RV.done ?_
     refine CV.ret ?_
     have hd := decI_ok hq he0 (dec_same hne hz2 (by simpa using hs))
     exact fin3 rfl (.inr rfl) ⟨_, _, _, _, _, rfl, rfl, rfl, ty_int⟩ rfl rfl (fun L ρ w v h => is_dec hd L ρ w v (by rw [val_dig, ← hz1, mk_self] at h; exact h))
theorem rDecode_con : Con Tryz.prog 23 [ZI .u8 bs] (.tup [.d (Dm.int (decI bs).1 1000), .v (.int .i64 ((decI bs).2.1 : Nat)), .v (.int .i64 (decI bs).2.2)]) := by
 have hlen := decList_len hb
 rcases hq : W.decList W.dec 1 bs with ⟨l, u, e⟩
 rw [hq] at hlen
 simp only at hlen
 refine Con.of (n := 43) Tryz.func23 rfl rfl rfl rfl rfl fun cx hfr => ?_
 refine sr rfl ?_
 refine p2 (ok_alloc (i := 0) rfl rfl bd zero_int rfl rfl rfl rfl) ?_
 refine mr rfl rfl bd rfl ?_
 refine mr rfl rfl bd rfl ?_
 refine RV.done (sr rfl ?_)
 refine ml rfl rfl bd rfl ?_
 refine p1 (ok_call (rGetInts_con bs hb (by omega) hq) rfl rfl bd Tryz.func94 rfl rfl (.cons rfl Conv.any .nil) rfl hfr rfl) ?_
 refine ml rfl rfl bd rfl ?_
 refine p1 (ok_extract rfl rfl bd rfl rfl) ?_
 refine p1 (ok_extract rfl rfl bd rfl rfl) ?_
 refine p1 (ok_extract rfl rfl bd rfl rfl) ?_
 refine mr rfl rfl bd rfl ?_
 refine mr rfl rfl bd rfl ?_
 refine mr rfl rfl bd rfl ?_
 refine RV.done ?_
 refine CV.seq ?_
 refine sr rfl ?_
 refine ml rfl rfl bd rfl ?_
 refine p1 (ok_neq rfl rfl bd rfl rfl) ?_
 refine RV.done ?_
 refine CV.cond rfl (fun he => ?_) (fun he => ?_)
 ·refine sr rfl ?_
  refine p1 (ok_buildI rfl rfl bd) ?_
  refine ml rfl rfl bd rfl ?_
  refine p1 (ok_store rfl rfl rfl rfl rfl rfl rfl (ty_int).2 rfl rfl rfl rfl) ?_
  refine mr rfl rfl bd rfl ?_
  refine mr rfl rfl bd rfl ?_
  refine RV.done ?_
  refine CV.ret ?_
  exact fin3 rfl (.inr rfl) ⟨_, _, _, _, _, rfl, rfl, rfl, ty_int⟩ rfl rfl (is_decz (decI_err hq (by simpa using he)))
 ·refine CV.skip ?_
  refine CV.seq ?_
  refine sr rfl ?_
  refine ml rfl rfl bd rfl ?_
  refine p1 (ok_lenL (ziV_length _) u_ints rfl rfl bd rfl) ?_
  refine p1 (ok_eql rfl rfl bd rfl rfl) ?_
  refine RV.done ?_
  refine CV.cond rfl (fun hn => ?_) (fun hn => ?_)
  ·refine sr rfl ?_
   refine p1 (ok_buildI rfl rfl bd) ?_
   refine p1 (ok_store rfl rfl rfl rfl rfl rfl rfl (ty_int).2 rfl rfl rfl rfl) ?_
   refine mr rfl rfl bd rfl ?_
   refine mr rfl rfl bd rfl ?_
   refine RV.done ?_
   refine CV.ret ?_
   have hne : l = [] := (by simpa using hn)
   exact fin3 rfl (.inr rfl) ⟨_, _, _, _, _, rfl, rfl, rfl, ty_int⟩ rfl rfl (is_decz (decI_bad hq (by simpa using he) (by rw [hne]; exact fun h => nomatch h)))
  ·have hne : l ≠ [] := (by rintro rfl; simp at hn)
   have hpos : 0 < l.length := List.length_pos_iff.2 hne
   have he0 : e = 0 := (by simpa using he)
   refine CV.skip ?_
   refine CV.seq ?_
   refine CV.region rfl (fun _ => by kernel_rfl) ?_
   refine ml rfl rfl bd rfl ?_
   refine p1 (ok_idxL (k := none) (i := 0) (ziV_at hpos) u_ints sz_i64 (by decide) rfl rfl bd rfl rfl) ?_
   refine p1 (ok_loadP ty_i64 (by decide) rfl rfl bd rfl) ?_
   refine p1 (ok_eqlB rfl rfl rfl bd rfl rfl) ?_
   refine ml rfl rfl bd rfl ?_
   refine p1 (ok_cutL (k := none) (l' := ziV .i64 (l.drop 1)) (some 1) none none (by show ((ziV .i64 l).take (ziV .i64 l).length).drop 1 = _; rw [List.take_length, ziV_drop]) (by decide) (by rw [ziV_length]; exact hpos) (Nat.le_refl _) (Nat.le_refl _) (fun _ => rfl) u_ints sz_i64 rfl rfl bd rfl rfl trivial trivial) ?_
   refine p1 (ok_braw rfl rfl bd rfl rfl) ?_
   refine p2 (ok_alloc (i := 1) rfl rfl bd zero_int rfl rfl rfl rfl) ?_
   refine p1 (ok_store rfl rfl rfl rfl rfl rfl rfl (ty_int).2 rfl rfl rfl rfl) ?_
   refine RV.drawn (by kernel_rfl) ?_
   refine CV.seq ?_
   refine sr rfl ?_
   refine p1 (ok_load rfl rfl bd rfl rfl rfl ty_int) ?_
   refine p1 (ok_call (rVRaw_con _ _ _ rfl) rfl rfl bd Tryz.func95 rfl rfl (.cons rfl Conv.any .nil) rfl hfr rfl) ?_
   refine p1 (ok_not rfl rfl bd rfl) ?_
   refine RV.done ?_
   refine CV.cond rfl (fun hv => ?_) (fun hv => ?_)
   ·refine sr rfl ?_
    refine p1 (ok_buildI rfl rfl bd) ?_
    refine p1 (ok_store rfl rfl rfl rfl rfl rfl rfl (ty_int).2 rfl rfl rfl rfl) ?_
    refine mr rfl rfl bd rfl ?_
    refine mr rfl rfl bd rfl ?_
    refine RV.done ?_
    refine CV.ret ?_
    exact fin3 rfl (.inr rfl) ⟨_, _, _, _, _, rfl, rfl, rfl, ty_int⟩ rfl rfl (is_decz (decI_bad hq he0 (dec_bad (b := (l.getD 0 0 == -1)) (by simpa using hv) (fun z h => by rw [← h, Bool.eq_iff_iff, decide_eq_true_eq, beq_iff_eq]; exact (cmp0 z).2.symm))))
   ·obtain ⟨z, hz1, hz2⟩ := valid_int (b := (l.getD 0 0 == -1)) (zs := l.drop 1) (by simpa using hv)
    have hzl : len z ≤ 1000 := (by have := congrArg List.length hz2; rw [List.length_map, List.length_drop] at this; show (dig z.natAbs).length ≤ _; omega)
    refine CV.skip ?_
    refine CV.seq ?_
    refine CV.seq ?_
    refine CV.region rfl (fun _ => by kernel_rfl) ?_
    refine p1 (ok_load rfl rfl bd rfl rfl rfl ty_int) ?_
    refine p1 (ok_callF (rSignF_con z (j := 1000)) rfl rfl bd Tryz.func92 rfl rfl (.cons rfl ⟨rfl, raw_int hz1 hz2 hzl⟩ .nil) rfl) ?_
    refine ml rfl rfl bd rfl ?_
    refine p1 (ok_idxL (k := none) (i := 0) (ziV_at hpos) u_ints sz_i64 (by decide) rfl rfl bd rfl rfl) ?_
    refine p1 (ok_loadP ty_i64 (by decide) rfl rfl bd rfl) ?_
    refine p1 (ok_neq rfl rfl bd rfl rfl) ?_
    refine RV.drawn (by kernel_rfl) ?_
    refine CV.cond rfl (fun hs => ?_) (fun hs => ?_)
    ·refine sr rfl ?_
     refine p1 (ok_buildI rfl rfl bd) ?_
     refine p1 (ok_store rfl rfl rfl rfl rfl rfl rfl (ty_int).2 rfl rfl rfl rfl) ?_
     refine mr rfl rfl bd rfl ?_
     refine mr rfl rfl bd rfl ?_
     refine RV.done ?_
     refine CV.ret ?_
     exact fin3 rfl (.inr rfl) ⟨_, _, _, _, _, rfl, rfl, rfl, ty_int⟩ rfl rfl (is_decz (decI_bad hq he0 (dec_diff hz2 (fun y h => by rw [hz1, ← h, Bool.eq_iff_iff, decide_eq_true_eq, beq_iff_eq]; exact (cmp0 y).2.symm) (by simpa using hs))))
    ·refine CV.skip ?_
     refine sr rfl ?_
     refine p1 (ok_load rfl rfl bd rfl rfl rfl ty_int) ?_
     refine ml rfl rfl bd rfl ?_
     refine p1 (ok_store rfl rfl rfl rfl rfl rfl rfl (ty_int).2 rfl rfl rfl rfl) ?_
     refine mr rfl rfl bd rfl ?_
     refine mr rfl rfl bd rfl ?_
     refine RV.done ?_
     refine CV.ret ?_
     have hd := decI_ok hq he0 (dec_same hne hz2 (by simpa using hs))
     exact fin3 rfl (.inr rfl) ⟨_, _, _, _, _, rfl, rfl, rfl, ty_int⟩ rfl rfl (fun L ρ w v h => is_dec hd L ρ w v (is_tri (raw_int hz1 hz2 hzl) rfl rfl L ρ w v h))
end

/-! Few, Short, Around; a text's and a code's way back. -/
theorem Few_con (zs : List Int) (k : Nat) (hk : k ≤ 1000000) : Con Tryz.prog 14 [ZI .u8 zs, .v (.int .i64 (k : Int))] (.one (ZI .u8 (zs.take k))) := by
 refine Con.of (n := 14) Tryz.func14 rfl rfl rfl rfl rfl fun cx hfr => ?_
 refine sr rfl ?_
 refine mr rfl rfl bd rfl ?_
 refine RV.done (sr rfl ?_)
 refine mr rfl rfl bd rfl ?_
 refine RV.done ?_
 refine CV.seq ?_
 refine CV.nilrow 5 5 5 none rfl rfl rfl rfl ?_
 refine CV.region rfl (fun h => nomatch h) ?_
 refine ml rfl rfl bd rfl ?_
 refine ml rfl rfl bd rfl ?_
 refine ml rfl rfl bd rfl ?_
 refine p1 (ok_lenL (ziV_length _) u_bytes rfl rfl bd rfl) ?_
 refine ml rfl rfl bd rfl ?_
 refine p1 (ok_minI (c := ((min zs.length k : Nat) : Int)) (by split <;> omega) rfl rfl bd rfl rfl) ?_
 refine p1 (ok_cutL (k := none) (l' := ziV .u8 (zs.take k)) none (some (min zs.length k)) none (by show ((ziV .u8 zs).take (min zs.length k)).drop 0 = _; rw [List.drop_zero, ziV_take, show zs.take (min zs.length k) = zs.take k from by rw [Nat.min_comm, ← List.take_take, List.take_of_length_le (Nat.le_refl zs.length)]]) (by decide) (Nat.zero_le _) (by show min zs.length k ≤ (ziV .u8 zs).length; rw [ziV_length]; omega) (Nat.le_refl _) (fun h => nomatch h) u_bytes sz_u8 rfl rfl bd rfl trivial rfl trivial) ?_
 refine RV.step4 (OpOk.plain (ok_appendND (r := 5) (r' := 6) (k := none) (G := Dm.gen (lstG none (ziV .u8 (zs.take k)))) [] (cx.bw hfr) (lst_elems (by decide) (ziV_ptrs _)) (lstG_Lst none _) (lstG_Lst0 none _) (by rw [ziV_length, List.length_take]; show (0 + _) * 1 ≤ _; omega) (by rw [ziV_length, List.length_take]; show 0 + _ ≤ _; omega) u_bytes inf_u8 rfl rfl rfl rfl rfl bd rfl rfl rfl rfl rfl rfl rfl rfl) rfl) ?_
 refine mr rfl rfl bd rfl ?_
 refine RV.done ?_
 refine CV.ret ?_
 exact fin1 rfl (.inr rfl) rfl is_rfl
theorem Short_con (l : List UInt8) (k : Nat) (hk : k ≤ 1000000) : Con (D := Dm) Tryz.prog 20 [.v (str l), .v (.int .i64 (k : Int))] (.one (.v (str (l.take k)))) := by
 refine Con.of (n := 13) Tryz.func20 rfl rfl rfl rfl rfl fun cx hfr => ?_
 refine sr rfl ?_
 refine mr rfl rfl bd rfl ?_
 refine RV.done ?_
 refine CV.seq ?_
 refine sr rfl ?_
 refine ml rfl rfl bd rfl ?_
 refine p1 (ok_lenT rfl u_str rfl rfl bd rfl) ?_
 refine ml rfl rfl bd rfl ?_
 refine p1 (ok_gtr rfl rfl bd rfl rfl) ?_
 refine RV.done ?_
 refine CV.cond rfl (fun hc => ?_) (fun hc => ?_)
 ·refine sr rfl ?_
  refine ml rfl rfl bd rfl ?_
  refine ml rfl rfl bd rfl ?_
  refine p1 (ok_cutT (v := l.take k) none (some k) (by show (l.take k).drop 0 = _; rw [List.drop_zero]) (Nat.zero_le _) (by show k ≤ l.length; simp at hc; omega) u_str rfl rfl bd rfl trivial rfl) ?_
  refine mr rfl rfl bd rfl ?_
  refine RV.done ?_
  refine CV.ret ?_
  exact fin1 rfl (.inr rfl) rfl is_rfl
 ·refine CV.skip ?_
  refine sr rfl ?_
  refine ml rfl rfl bd rfl ?_
  refine mr rfl rfl bd rfl ?_
  refine RV.done ?_
  refine CV.ret ?_
  exact fin1 rfl (.inr rfl) rfl (is_of (by rw [List.take_of_length_le (by simp at hc; omega)]))
def aroundN (n : Int) (m : Nat) : Nat := (if n < 0 then -(n + 1) else n).toNat % m
theorem AroundN_con (n : Int) (m : Nat) (hm : 0 < m) (hm2 : m ≤ 1000000) (h1 : -9223372036854775808 ≤ n) (h2 : n ≤ 9223372036854775807) : Con (D := Dm) Tryz.prog 19 [.v (.int .i64 n), .v (.int .i64 (m : Int))] (.one (.v (.int .i64 ((aroundN n m : Nat) : Int)))) := by
 refine Con.of (n := 13) Tryz.func19 rfl rfl rfl rfl rfl fun cx hfr => ?_
 refine sr rfl ?_
 refine mr rfl rfl bd rfl ?_
 refine RV.done ?_
 refine CV.seq ?_
 refine sr rfl ?_
 refine ml rfl rfl bd rfl ?_
 refine p1 (ok_lss rfl rfl bd rfl rfl) ?_
 refine RV.done ?_
 refine CV.cond rfl (fun hc => ?_) (fun hc => ?_)
 ·refine CV.region rfl (fun h => nomatch h) ?_
  refine ml rfl rfl bd rfl ?_
  refine p1 (ok_add (c := n + 1) (by rw [wrapI (by omega) (by have : n < 0 := (by simpa using hc); omega)]) rfl rfl bd rfl rfl) ?_
  refine p1 (ok_neg (c := -(n + 1)) (by rw [wrapI (by have : n < 0 := (by simpa using hc); omega) (by have : n < 0 := (by simpa using hc); omega)]; omega) rfl rfl bd rfl) ?_
  refine mr rfl rfl bd rfl ?_
  refine RV.done (sr rfl ?_)
  refine ml rfl rfl bd rfl ?_
  refine ml rfl rfl bd rfl ?_
  refine p1 (ok_remC (c := ((aroundN n m : Nat) : Int)) (by omega) (by unfold aroundN; have hc' := hc; simp at hc'; rw [Int.tmod_eq_emod_of_nonneg (by omega)]; first | rw [if_pos (by omega), Int.natCast_emod, Int.toNat_of_nonneg (by omega)] | rw [if_neg (by omega), Int.natCast_emod, Int.toNat_of_nonneg (by omega)]) rfl rfl bd rfl rfl) ?_
  refine mr rfl rfl bd rfl ?_
  refine RV.done ?_
  refine CV.ret ?_
  exact fin1 rfl (.inr rfl) rfl is_rfl
 ·refine CV.skip ?_
  refine sr rfl ?_
  refine ml rfl rfl bd rfl ?_
  refine ml rfl rfl bd rfl ?_
  refine p1 (ok_remC (c := ((aroundN n m : Nat) : Int)) (by omega) (by unfold aroundN; have hc' := hc; simp at hc'; rw [Int.tmod_eq_emod_of_nonneg (by omega)]; first | rw [if_pos (by omega), Int.natCast_emod, Int.toNat_of_nonneg (by omega)] | rw [if_neg (by omega), Int.natCast_emod, Int.toNat_of_nonneg (by omega)]) rfl rfl bd rfl rfl) ?_
  refine mr rfl rfl bd rfl ?_
  refine RV.done ?_
  refine CV.ret ?_
  exact fin1 rfl (.inr rfl) rfl is_rfl
theorem SameBT_con (a : List Int) (ha : a.length ≤ 1000000000000) : Con Tryz.prog 17 [ZI .u8 a, ZI .u8 a] (.one (.v (.bool true))) := by
 have q := SameB_con a a ha
 rwa [decide_eq_true (rfl : a = a)] at q
theorem lst_eqv {k : Option Nat} {l l' : List (SA Dm)} (h : l = l') : ∀ L ρ w v, (SA.d (Dm.gen (lstG k l))).is L ρ w v → (SA.d (Dm.gen (lstG k l'))).is L ρ w v := by subst h; exact fun _ _ _ _ h => h
def stV (ts : List (List UInt8)) : List (SA Dm) := ts.map fun t => .v (str t)
theorem stV_at {ts : List (List UInt8)} {i : Nat} (h : i < ts.length) : (stV ts)[i]? = some (.v (str (ts.getD i []))) := by
 simp [stV, List.getElem?_eq_getElem h, List.getD_eq_getElem?_getD]
theorem stV_kind {ts : List (List UInt8)} : ∀ s ∈ stV ts, s.kind = some none := by
 intro s hs
 obtain ⟨b, _, rfl⟩ := List.mem_map.1 hs
 rfl
def zbV (ls : List (List Int)) : List (SA Dm) := ls.map fun l => ZI .u8 l
theorem zbV_at {ls : List (List Int)} {i : Nat} (h : i < ls.length) : (zbV ls)[i]? = some (ZI .u8 (ls.getD i [])) := by
 simp [zbV, List.getElem?_eq_getElem h, List.getD_eq_getElem?_getD]
theorem zbV_kind {ls : List (List Int)} : ∀ s ∈ zbV ls, s.kind = some none := by
 intro s hs
 obtain ⟨b, _, rfl⟩ := List.mem_map.1 hs
 rfl
theorem u_strs : Tryz.prog.underlying 39 = some (.slice 9) := by kernel_rfl
theorem sz_str : (Tryz.prog.info? 9).map (·.size) = some 1 := by kernel_rfl
theorem zs_str : (Tryz.prog.info? 9).map (fun i => (i.size, i.zero)) = some (1, some (str [])) := by kernel_rfl
theorem u_lbytes : Tryz.prog.underlying 41 = some (.slice 23) := by kernel_rfl
theorem sz_bytes : (Tryz.prog.info? 23).map (·.size) = some 1 := by kernel_rfl
theorem zs_bytes : (Tryz.prog.info? 23).map (fun i => (i.size, i.zero)) = some (1, some (.slice none 0 0)) := by kernel_rfl
theorem byV_set (u : List UInt8) (i : Nat) (b : UInt8) : (byV u).set i (.v (.int .u8 (b.toNat : Int))) = byV (u.set i b) := by simp [byV, List.map_set]
theorem ziV_set (u : List Int) (i : Nat) (b : Int) : (ziV .u8 u).set i (.v (.int .u8 b)) = ziV .u8 (u.set i b) := by simp [ziV, List.map_set]
theorem bs_set {u : List Int} (h : W.Bs u) (i : Nat) {b : Int} (hb : 0 ≤ b ∧ b ≤ 255) : W.Bs (u.set i b) := fun x hx => by
 rcases List.mem_or_eq_of_mem_set hx with hx | rfl
 ·exact h x hx
 ·exact hb
section
variable (l : List Int) (s : List UInt8) (b : List Int) (p : Int) (c : UInt8) (x : Int) (hx : numI l 0 = x) (hb : W.Bs b) (hp1 : -9223372036854775808 ≤ p) (hp2 : p ≤ 9223372036854775807)
include hx hb hp1 hp2
end

/-! Equal fractions of any two integers. -/
theorem rfSameG_con (p q : Int) (j k : Nat) : Con Tryz.prog 55 [.d (Dm.rt p q j), .d (Dm.rt p q k)] (.one (.v (.bool true))) := by
 refine Con.of (n := 17) Tryz.func55 rfl rfl rfl rfl rfl fun cx hfr => ?_
 refine sr rfl ?_
 refine p2 (ok_box (i := 0) rfl rfl bd rfl rfl rfl rfl rfl) ?_
 refine p2 (ok_box (i := 1) rfl rfl bd rfl rfl rfl rfl rfl) ?_
 refine mr rfl rfl bd rfl ?_
 refine RV.done (sr rfl ?_)
 refine p1 (ok_fieldAddr fa_rat0 rfl rfl bd rfl) ?_
 refine p1 (ok_loadf 0 fld_num rfl rfl bd rfl rfl rfl rfl ty_int) ?_
 refine p1 (ok_fieldAddr fa_rat0 rfl rfl bd rfl) ?_
 refine p1 (ok_loadf 0 fld_num rfl rfl bd rfl rfl rfl rfl ty_int) ?_
 refine p1 (ok_call (rSameT_con rfl) rfl rfl bd Tryz.func36 rfl rfl (.cons rfl Conv.any (.cons rfl Conv.any .nil)) rfl hfr rfl) ?_
 refine ml rfl rfl bd rfl ?_
 refine RV.step1 (OpOk.yes (ok_fieldAddr fa_rat1 rfl rfl bd rfl) rfl rfl rfl) ?_
 refine RV.step1 (OpOk.yes (ok_loadf 2 fld_den rfl rfl bd rfl rfl rfl rfl ty_int) rfl rfl rfl) ?_
 refine RV.step1 (OpOk.yes (ok_fieldAddr fa_rat1 rfl rfl bd rfl) rfl rfl rfl) ?_
 refine RV.step1 (OpOk.yes (ok_loadf 2 fld_den rfl rfl bd rfl rfl rfl rfl ty_int) rfl rfl rfl) ?_
 refine RV.step1 (OpOk.yes (ok_call (rSameT_con rfl) rfl rfl bd Tryz.func36 rfl rfl (.cons rfl Conv.any (.cons rfl Conv.any .nil)) rfl hfr rfl) rfl rfl rfl) ?_
 refine p1 (ok_pickT rfl rfl bd rfl rfl rfl) ?_
 refine mr rfl rfl bd rfl ?_
 refine RV.done ?_
 refine CV.ret ?_
 exact fin1 rfl (.inr rfl) rfl is_rfl
theorem same5G_con (p q : Int) (j k : Nat) : Con Tryz.prog 32 [.d (Dm.rt p q j), .d (Dm.rt p q k)] (.one (.v (.bool true))) := by
 refine Con.of (n := 8) Tryz.func32 rfl rfl rfl rfl rfl fun cx hfr => ?_
 refine sr rfl ?_
 refine p2 (ok_box (i := 0) rfl rfl bd rfl rfl rfl rfl rfl) ?_
 refine p2 (ok_box (i := 1) rfl rfl bd rfl rfl rfl rfl rfl) ?_
 refine mr rfl rfl bd rfl ?_
 refine RV.done (sr rfl ?_)
 refine p1 (ok_load rfl rfl bd rfl rfl rfl ty_rat) ?_
 refine p1 (ok_load rfl rfl bd rfl rfl rfl ty_rat) ?_
 refine p1 (ok_call (rfSameG_con _ _ _ _) rfl rfl bd Tryz.func55 rfl rfl (.cons rfl Conv.any (.cons rfl Conv.any .nil)) rfl hfr rfl) ?_
 refine mr rfl rfl bd rfl ?_
 refine RV.done ?_
 refine CV.ret ?_
 exact fin1 rfl (.inr rfl) rfl is_rfl
/-! Texts. -/
theorem RTextQ_con (a : Rat) (k : Nat) (hk : k ≤ 1000000000) (h1 : (txtI a.num).length ≤ 1000000000) (h2 : (txtI (qd a)).length ≤ 1000000000) : Con Tryz.prog 67 [RT a k] (.one (.v (str (txtQ a)))) := by
 unfold txtQ
 by_cases h : qd a = 0
 ·rw [if_pos h]; exact RTextW_con a k hk h
 ·rw [if_neg h]; exact RTextF_con a k hk h1 h2 h
theorem rfTextQ_con (a : Rat) (k : Nat) (hk : k ≤ 1000000000) (h1 : (txtI a.num).length ≤ 1000000000) (h2 : (txtI (qd a)).length ≤ 1000000000) : Con Tryz.prog 71 [RT a k] (.one (.v (str (txtQ a)))) := by
 refine Con.of (n := 19) Tryz.func71 rfl rfl rfl rfl rfl fun cx hfr => ?_
 refine sr rfl ?_
 refine p2 (ok_box (i := 0) rfl rfl bd rfl rfl rfl rfl rfl) ?_
 refine mr rfl rfl bd rfl ?_
 refine RV.done ?_
 refine CV.seq ?_
 refine sr rfl ?_
 refine p1 (ok_fieldAddr fa_rat1 rfl rfl bd rfl) ?_
 refine p1 (ok_fieldAddr fa_int1 rfl rfl bd rfl) ?_
 refine p1 (ok_loadf 3 fld_dden rfl rfl bd rfl rfl rfl rfl ty_ints) ?_
 refine p1 (ok_len rfl rfl bd rfl) ?_
 refine p1 (ok_eql rfl rfl bd rfl rfl) ?_
 refine RV.done ?_
 refine CV.cond rfl (fun hc => ?_) (fun hc => ?_)
 ·refine sr rfl ?_
  refine p1 (ok_fieldAddr fa_rat0 rfl rfl bd rfl) ?_
  refine p1 (ok_loadf 0 fld_num rfl rfl bd rfl rfl rfl rfl ty_int) ?_
  refine p1 (ok_call (rText_con _ _ hk) rfl rfl bd Tryz.func15 rfl rfl (.cons rfl Conv.any .nil) rfl hfr rfl) ?_
  refine mr rfl rfl bd rfl ?_
  refine RV.done ?_
  refine CV.ret ?_
  rw [dig_len_zero] at hc
  exact fin1 rfl (.inr rfl) rfl (is_of (by unfold txtQ; rw [if_pos (by simpa using hc)]))
 ·refine CV.skip ?_
  refine CV.seq ?_
  refine CV.region rfl (fun _ => by kernel_rfl) ?_
  refine p1 (ok_fieldAddr fa_rat0 rfl rfl bd rfl) ?_
  refine p1 (ok_loadf 0 fld_num rfl rfl bd rfl rfl rfl rfl ty_int) ?_
  refine p1 (ok_call (rText_con _ _ hk) rfl rfl bd Tryz.func15 rfl rfl (.cons rfl Conv.any .nil) rfl hfr rfl) ?_
  refine p1 (ok_catT (v := [47]) (by rw [List.length_singleton]; omega) rfl rfl bd rfl rfl) ?_
  refine p1 (ok_fieldAddr fa_rat1 rfl rfl bd rfl) ?_
  refine p1 (ok_loadf 2 fld_den rfl rfl bd rfl rfl rfl rfl ty_int) ?_
  refine p1 (ok_call (rText_con _ _ hk) rfl rfl bd Tryz.func15 rfl rfl (.cons rfl Conv.any .nil) rfl hfr rfl) ?_
  refine p1 (ok_catT (by rw [List.length_append, List.length_singleton]; omega) rfl rfl bd rfl rfl) ?_
  refine mr rfl rfl bd rfl ?_
  refine RV.drawn (by kernel_rfl) ?_
  refine CV.ret ?_
  rw [dig_len_zero] at hc
  exact fin1 rfl (.inr rfl) rfl (is_of (by unfold txtQ; rw [if_neg (by simpa using hc), List.append_assoc]; rfl))
theorem RParseT_con (a : Rat) (h : (txtQ a).length ≤ 65536) : Con (D := Dm) Tryz.prog 68 [.v (str (txtQ a))] (.tup [RT a 7300, .v (.int .i64 0)]) := by
 have q := RParse_con (txtQ a)
 rwa [parse_txtQ a h] at q
theorem txtQ_ne (a : Rat) (h : (txtQ a).length ≤ 65536) : 0 < (txtQ a).length := by
 refine List.length_pos_iff.2 fun e => ?_
 have q := parse_txtQ a h
 rw [e, show parseQ [] = (0, 0, 2) by decide] at q
 simp at q
theorem parse_two (l : List UInt8) (h : l.length ≤ 65536) (h2 : (parseI l).2 ≠ 0) : (parseI l).2 = 2 := by
 unfold parseI at h2 ⊢
 rw [if_neg (by omega)] at h2 ⊢
 generalize (if l.getD 0 0 == 45 then l.drop 1 else l) = d at h2 ⊢
 by_cases h3 : (!numB d || ((l.getD 0 0 == 45) && d == [48])) = true
 ·rw [if_pos h3]
 ·rw [if_neg h3] at h2
  exact absurd rfl h2
theorem ne47 {b : UInt8} {r : Bool} (h : (((b.toNat : Nat) : Int) != 47) = r) : (b != 47) = r := by
 rw [← h, Bool.eq_iff_iff, bne_iff_ne, bne_iff_ne]
 constructor
 ·intro h e; exact h (UInt8.toNat_inj.1 (show b.toNat = 47 by omega))
 ·rintro h rfl; exact h rfl
theorem take_ne {l : List UInt8} {k : Nat} (hk : k < l.length) (h : ∀ b ∈ l.take k, b ≠ 47) (h1 : (l.getD k 0 != 47) = true) : ∀ b ∈ l.take (k + 1), b ≠ 47 := by
 rw [List.take_add_one, List.getElem?_eq_getElem hk]
 rw [List.getD_eq_getElem?_getD, List.getElem?_eq_getElem hk] at h1
 intro b hb
 rcases List.mem_append.1 hb with hb | hb
 ·exact h b hb
 ·obtain rfl : b = l[k] := by simpa using hb
  exact bne_iff_ne.1 h1
theorem cut_here {l : List UInt8} {k : Nat} (hk : k < l.length) (h : ∀ b ∈ l.take k, b ≠ 47) (h1 : (l.getD k 0 != 47) = false) : cutB l 47 = (l.take k, l.drop (k + 1), true) := by
 rw [List.getD_eq_getElem?_getD, List.getElem?_eq_getElem hk, bne_eq_false_iff_eq] at h1
 have e : l = l.take k ++ 47 :: l.drop (k + 1) := by
  conv => lhs; rw [← List.take_append_drop k l]
  rw [List.drop_eq_getElem_cons hk]
  rw [show l[k] = 47 from h1]
 conv => lhs; rw [e]
 exact cutB_at h
section
variable (l : List UInt8)
theorem rfParse_con : Con (D := Dm) Tryz.prog 73 [.v (str l)] (.tup [.d (Dm.rt (parseQ l).1 (parseQ l).2.1 7300), .v (.int .i64 (parseQ l).2.2)]) := by
 refine Con.of (n := 69) Tryz.func73 rfl rfl rfl rfl rfl fun cx hfr => ?_
 refine sr rfl ?_
 refine p2 (ok_alloc (i := 0) rfl rfl bd zero_rat rfl rfl rfl rfl) ?_
 refine mr rfl rfl bd rfl ?_
 refine RV.done ?_
 refine CV.seq ?_
 refine sr rfl ?_
 refine ml rfl rfl bd rfl ?_
 refine p1 (ok_lenT rfl u_str rfl rfl bd rfl) ?_
 refine p1 (ok_gtr rfl rfl bd rfl rfl) ?_
 refine RV.done ?_
 refine CV.cond rfl (fun h0 => ?_) (fun h0 => ?_)
 ·refine sr rfl ?_
  refine p1 (ok_build0 rfl rfl bd) ?_
  refine p1 (ok_store rfl rfl rfl rfl rfl rfl rfl (ty_rat).2 rfl rfl rfl rfl) ?_
  refine mr rfl rfl bd rfl ?_
  refine RV.done ?_
  refine CV.ret ?_
  exact fin2 rfl (.inr rfl) ⟨_, _, _, _, _, rfl, rfl, rfl, ty_rat⟩ rfl (is_rt2 (by unfold parseQ; rw [if_pos (by simp at h0; omega)]) (by unfold parseQ; rw [if_pos (by simp at h0; omega)]) (by unfold parseQ; rw [if_pos (by simp at h0; omega)]) (by omega))
 ·refine CV.skip ?_
  refine sr rfl ?_
  refine mr rfl rfl bd rfl ?_
  refine RV.done ?_
  refine CV.seq ?_
  refine CV.block ?_
  have hll : l.length ≤ 65536 := (by have := of_decide_eq_false h0; omega)
  refine CV.loop (X := {k : Nat // k ≤ l.length ∧ ∀ b ∈ l.take k, b ≠ 47}) (fun k => [(.s 4, .av (.one (.v (.int .i64 (k.1 : Int))))), (.s 0, .av (.one (.v (str l)))), (.s 2, .av (.one (.ptr 0 0))), (.b 0, .blk 45 [(some 4, .v (.agg #[.bool false, .slice none 0 0, .bool false, .slice none 0 0]))])]) (fun k => l.length - k.1) ⟨0, Nat.zero_le _, by simp⟩ (Sub.mk ⟨XV.le_rfl _, XV.le_rfl _, XV.le_rfl _, XV.le_rfl _, trivial⟩ rfl rfl) (fun k => ?_)
  obtain ⟨k, hk, hk2⟩ := k
  simp only
  refine CV.seq ?_
  refine sr rfl ?_
  refine ml rfl rfl bd rfl ?_
  refine ml rfl rfl bd rfl ?_
  refine p1 (ok_lenT rfl u_str rfl rfl bd rfl) ?_
  refine p1 (ok_lss rfl rfl bd rfl rfl) ?_
  refine ml rfl rfl bd rfl ?_
  refine RV.bool (fun hb => ?_) (fun hb => ?_)
  ·refine RV.step1 (OpOk.yes (ok_move (.inl rfl) rfl bd rfl) rfl rfl rfl) ?_
   refine RV.step1 (OpOk.yes (ok_move (.inl rfl) rfl bd rfl) rfl rfl rfl) ?_
   refine RV.step1 (OpOk.yes (ok_idxT (i := k) (by simpa using hb) u_str rfl rfl bd rfl rfl) rfl rfl rfl) ?_
   refine RV.step1 (OpOk.yes (ok_neq rfl rfl bd rfl rfl) rfl rfl rfl) ?_
   refine p1 (ok_pickT rfl rfl bd rfl rfl rfl) ?_
   refine RV.done ?_
   refine CV.cond rfl (fun h1 => ?_) (fun h1 => ?_)
   ·refine CV.skip ?_
    refine CV.block ?_
    refine CV.region rfl (fun h => nomatch h) ?_
    refine ml rfl rfl bd rfl ?_
    refine p1 (ok_add (c := ((k + 1 : Nat) : Int)) (by rw [wrapI (by omega) (by omega)]; omega) rfl rfl bd rfl rfl) ?_
    refine mr rfl rfl bd rfl ?_
    refine RV.done ?_
    have hlt : k < l.length := (by simpa using hb)
    exact ⟨⟨k + 1, hlt, take_ne hlt hk2 (ne47 h1)⟩, Sub.mk ⟨XV.le_rfl _, XV.le_rfl _, XV.le_rfl _, XV.le_rfl _, trivial⟩ rfl rfl, by show l.length - (k + 1) < l.length - k; omega⟩
   ·refine CV.exit ?_
    refine sr rfl ?_
    refine ml rfl rfl bd rfl ?_
    refine ml rfl rfl bd rfl ?_
    refine p1 (ok_cutT (v := l.take k) none (some k) (by show (l.take k).drop 0 = _; rw [List.drop_zero]) (Nat.zero_le _) hk u_str rfl rfl bd rfl trivial rfl) ?_
    refine p1 (ok_call (rParse_con (l.take k)) rfl rfl bd Tryz.func21 rfl rfl (.cons rfl Conv.any .nil) rfl hfr rfl) ?_
    refine ml rfl rfl bd rfl ?_
    refine p1 (ok_extract rfl rfl bd rfl rfl) ?_
    refine p1 (ok_extract rfl rfl bd rfl rfl) ?_
    refine p2 (ok_alloc (i := 1) rfl rfl bd zero_int rfl rfl rfl rfl) ?_
    refine p1 (ok_store rfl rfl rfl rfl rfl rfl rfl (ty_int).2 rfl rfl rfl rfl) ?_
    refine mr rfl rfl bd rfl ?_
    refine RV.done ?_
    refine CV.seq ?_
    refine sr rfl ?_
    refine ml rfl rfl bd rfl ?_
    refine p1 (ok_neq rfl rfl bd rfl rfl) ?_
    refine RV.done ?_
    refine CV.cond rfl (fun h2 => ?_) (fun h2 => ?_)
    ·refine sr rfl ?_
     refine p1 (ok_build0 rfl rfl bd) ?_
     refine ml rfl rfl bd rfl ?_
     refine p1 (ok_store rfl rfl rfl rfl rfl rfl rfl (ty_rat).2 rfl rfl rfl rfl) ?_
     refine mr rfl rfl bd rfl ?_
     refine RV.done ?_
     refine CV.ret ?_
     have hlt : k < l.length := (by simpa using hb)
     have hcut := cut_here hlt hk2 (ne47 h1)
     have he : (parseI (l.take k)).2 ≠ 0 := (by simpa using h2)
     have q : parseQ l = (0, 0, (parseI (l.take k)).2) := (by unfold parseQ; rw [if_neg (by omega), hcut, if_pos (.inl he), parse_zero _ he])
     rw [q]
     exact fin2 rfl (.inr rfl) ⟨_, _, _, _, _, rfl, rfl, rfl, ty_rat⟩ rfl (is_rt2 rfl rfl rfl (by omega))
    ·refine CV.skip ?_
     refine CV.seq ?_
     refine sr rfl ?_
     refine ml rfl rfl bd rfl ?_
     refine ml rfl rfl bd rfl ?_
     refine p1 (ok_lenT rfl u_str rfl rfl bd rfl) ?_
     refine p1 (ok_eql rfl rfl bd rfl rfl) ?_
     refine RV.done ?_
     refine CV.cond rfl (fun hc => False.elim (by simp at hc hb; omega)) (fun hc => ?_)
     refine CV.skip ?_
     refine sr rfl ?_
     refine ml rfl rfl bd rfl ?_
     refine ml rfl rfl bd rfl ?_
     refine p1 (ok_add (c := ((k + 1 : Nat) : Int)) (by rw [wrapI (by omega) (by omega)]; omega) rfl rfl bd rfl rfl) ?_
     refine p1 (ok_cutT (v := l.drop (k + 1)) (some (k + 1)) none (by show (l.take l.length).drop (k + 1) = _; rw [List.take_length]) (by have hlt : k < l.length := (by simpa using hb); exact hlt) (Nat.le_refl _) u_str rfl rfl bd rfl rfl trivial) ?_
     refine p1 (ok_call (rParse_con (l.drop (k + 1))) rfl rfl bd Tryz.func21 rfl rfl (.cons rfl Conv.any .nil) rfl hfr rfl) ?_
     refine ml rfl rfl bd rfl ?_
     refine p1 (ok_extract rfl rfl bd rfl rfl) ?_
     refine p1 (ok_extract rfl rfl bd rfl rfl) ?_
     refine p2 (ok_alloc (i := 2) rfl rfl bd zero_int rfl rfl rfl rfl) ?_
     refine p1 (ok_store rfl rfl rfl rfl rfl rfl rfl (ty_int).2 rfl rfl rfl rfl) ?_
     refine mr rfl rfl bd rfl ?_
     refine RV.done ?_
     refine CV.seq ?_
     refine sr rfl ?_
     refine ml rfl rfl bd rfl ?_
     refine p1 (ok_neq rfl rfl bd rfl rfl) ?_
     refine RV.done ?_
     refine CV.cond rfl (fun h3 => ?_) (fun h3 => ?_)
     ·refine sr rfl ?_
      refine p1 (ok_build0 rfl rfl bd) ?_
      refine ml rfl rfl bd rfl ?_
      refine p1 (ok_store rfl rfl rfl rfl rfl rfl rfl (ty_rat).2 rfl rfl rfl rfl) ?_
      refine mr rfl rfl bd rfl ?_
      refine RV.done ?_
      refine CV.ret ?_
      have hlt : k < l.length := (by simpa using hb)
      have hcut := cut_here hlt hk2 (ne47 h1)
      have he : (parseI (l.take k)).2 = 0 := (by simpa using h2)
      have hf : (parseI (l.drop (k + 1))).2 ≠ 0 := (by simpa using h3)
      have q : parseQ l = (0, 0, (parseI (l.drop (k + 1))).2) := (by unfold parseQ; rw [if_neg (by omega), hcut, if_neg (by simp [he]), if_pos (.inl hf), parse_two _ (by rw [List.length_drop]; omega) hf])
      rw [q]
      exact fin2 rfl (.inr rfl) ⟨_, _, _, _, _, rfl, rfl, rfl, ty_rat⟩ rfl (is_rt2 rfl rfl rfl (by omega))
     ·refine CV.skip ?_
      refine sr rfl ?_
      refine p1 (ok_load rfl rfl bd rfl rfl rfl ty_int) ?_
      refine p1 (ok_load rfl rfl bd rfl rfl rfl ty_int) ?_
      refine p1 (ok_build2 rfl rfl bd rfl rfl) ?_
      refine p2 (ok_alloc (i := 3) rfl rfl bd zero_rat rfl rfl rfl rfl) ?_
      refine p1 (ok_store rfl rfl rfl rfl rfl rfl rfl (ty_rat).2 rfl rfl rfl rfl) ?_
      refine RV.done ?_
      refine CV.seq ?_
      refine sr rfl ?_
      refine p1 (ok_fieldAddr fa_int1 rfl rfl bd rfl) ?_
      refine p1 (ok_loadf 1 fld_dig rfl rfl bd rfl rfl rfl rfl ty_ints) ?_
      refine p1 (ok_len rfl rfl bd rfl) ?_
      refine p1 (ok_eql rfl rfl bd rfl rfl) ?_
      refine ml rfl rfl bd rfl ?_
      refine RV.bool (fun h4 => ?_) (fun h4 => ?_)
      ·refine RV.step1 (OpOk.skip rfl rfl rfl rfl rfl bd) ?_
       refine RV.step1 (OpOk.skip rfl rfl rfl rfl rfl bd) ?_
       refine RV.step1 (OpOk.skip rfl rfl rfl rfl rfl bd) ?_
       refine p1 (ok_pickT rfl rfl bd rfl rfl rfl) ?_
       refine RV.done ?_
       refine CV.yes rfl ?_
       refine sr rfl ?_
       refine p1 (ok_build0 rfl rfl bd) ?_
       refine p1 (ok_store rfl rfl rfl rfl rfl rfl rfl (ty_rat).2 rfl rfl rfl rfl) ?_
       refine mr rfl rfl bd rfl ?_
       refine RV.done ?_
       refine CV.ret ?_
       have hlt : k < l.length := (by simpa using hb)
       have hcut := cut_here hlt hk2 (ne47 h1)
       have he : (parseI (l.take k)).2 = 0 := (by simpa using h2)
       rw [dig_len_zero] at h4
       have hf : (parseI (l.drop (k + 1))).1 = 0 := (by simpa using h4)
       have q : parseQ l = (0, 0, 2) := (by unfold parseQ; rw [if_neg (by omega), hcut, if_neg (by simp [he]), if_pos (.inr (fun h => h.1 hf))])
       rw [q]
       exact fin2 rfl (.inr rfl) ⟨_, _, _, _, _, rfl, rfl, rfl, ty_rat⟩ rfl (is_rt2 rfl rfl rfl (by omega))
      ·refine RV.step1 (OpOk.yes (ok_load rfl rfl bd rfl rfl rfl ty_rat) rfl rfl rfl) ?_
       refine RV.step1 (OpOk.yes (ok_call (rfValidG_con _ _ _ (by omega)) rfl rfl bd Tryz.func31 rfl rfl (.cons rfl Conv.any .nil) rfl hfr rfl) rfl rfl rfl) ?_
       refine RV.step1 (OpOk.yes (ok_not rfl rfl bd rfl) rfl rfl rfl) ?_
       refine p1 (ok_pickF rfl rfl bd rfl rfl rfl) ?_
       refine RV.done ?_
       refine CV.cond rfl (fun h5 => ?_) (fun h5 => ?_)
       ·refine sr rfl ?_
        refine p1 (ok_build0 rfl rfl bd) ?_
        refine p1 (ok_store rfl rfl rfl rfl rfl rfl rfl (ty_rat).2 rfl rfl rfl rfl) ?_
        refine mr rfl rfl bd rfl ?_
        refine RV.done ?_
        refine CV.ret ?_
        have hlt : k < l.length := (by simpa using hb)
        have hcut := cut_here hlt hk2 (ne47 h1)
        have he : (parseI (l.take k)).2 = 0 := (by simpa using h2)
        have hv : ¬ ((parseI (l.drop (k + 1))).1 = 0 ∨ (0 ≤ (parseI (l.drop (k + 1))).1 ∧ (parseI (l.drop (k + 1))).1 ≠ 1 ∧ Int.gcd (parseI (l.take k)).1 (parseI (l.drop (k + 1))).1 = 1)) := (by intro h; rw [decide_eq_true h] at h5; cases h5)
        have q : parseQ l = (0, 0, 2) := (by unfold parseQ; rw [if_neg (by omega), hcut, if_neg (by simp [he]), if_pos (.inr (fun h => hv (.inr h.2)))])
        rw [q]
        exact fin2 rfl (.inr rfl) ⟨_, _, _, _, _, rfl, rfl, rfl, ty_rat⟩ rfl (is_rt2 rfl rfl rfl (by omega))
       ·refine CV.skip ?_
        refine sr rfl ?_
        refine p1 (ok_load rfl rfl bd rfl rfl rfl ty_rat) ?_
        refine p1 (ok_store rfl rfl rfl rfl rfl rfl rfl (ty_rat).2 rfl rfl rfl rfl) ?_
        refine mr rfl rfl bd rfl ?_
        refine RV.done ?_
        refine CV.ret ?_
        have hlt : k < l.length := (by simpa using hb)
        have hcut := cut_here hlt hk2 (ne47 h1)
        have he : (parseI (l.take k)).2 = 0 := (by simpa using h2)
        have hf : (parseI (l.drop (k + 1))).2 = 0 := (by simpa using h3)
        rw [dig_len_zero] at h4
        have h4' : ¬ (parseI (l.drop (k + 1))).1 = 0 := (by simpa using h4)
        have hv : ((parseI (l.drop (k + 1))).1 = 0 ∨ (0 ≤ (parseI (l.drop (k + 1))).1 ∧ (parseI (l.drop (k + 1))).1 ≠ 1 ∧ Int.gcd (parseI (l.take k)).1 (parseI (l.drop (k + 1))).1 = 1)) := (by refine Decidable.byContradiction fun h => ?_; rw [decide_eq_false h] at h5; cases h5)
        have q : parseQ l = ((parseI (l.take k)).1, (parseI (l.drop (k + 1))).1, 0) := (by unfold parseQ; rw [if_neg (by omega), hcut, if_neg (by simp [he]), if_neg (by exact not_or.2 ⟨fun k => k hf, fun k => k ⟨h4', hv.resolve_left h4'⟩⟩)])
        rw [q]
        exact fin2 rfl (.inr rfl) ⟨_, _, _, _, _, rfl, rfl, rfl, ty_rat⟩ rfl (is_rt2 rfl rfl rfl (by omega))
  ·refine RV.step1 (OpOk.skip rfl rfl rfl rfl rfl bd) ?_
   refine RV.step1 (OpOk.skip rfl rfl rfl rfl rfl bd) ?_
   refine RV.step1 (OpOk.skip rfl rfl rfl rfl rfl bd) ?_
   refine RV.step1 (OpOk.skip rfl rfl rfl rfl rfl bd) ?_
   refine p1 (ok_pickF rfl rfl bd rfl rfl rfl) ?_
   refine RV.done ?_
   refine CV.no rfl ?_
   refine CV.exit ?_
   refine sr rfl ?_
   refine ml rfl rfl bd rfl ?_
   refine ml rfl rfl bd rfl ?_
   refine p1 (ok_cutT (v := l.take k) none (some k) (by show (l.take k).drop 0 = _; rw [List.drop_zero]) (Nat.zero_le _) hk u_str rfl rfl bd rfl trivial rfl) ?_
   refine p1 (ok_call (rParse_con (l.take k)) rfl rfl bd Tryz.func21 rfl rfl (.cons rfl Conv.any .nil) rfl hfr rfl) ?_
   refine ml rfl rfl bd rfl ?_
   refine p1 (ok_extract rfl rfl bd rfl rfl) ?_
   refine p1 (ok_extract rfl rfl bd rfl rfl) ?_
   refine p2 (ok_alloc (i := 1) rfl rfl bd zero_int rfl rfl rfl rfl) ?_
   refine p1 (ok_store rfl rfl rfl rfl rfl rfl rfl (ty_int).2 rfl rfl rfl rfl) ?_
   refine mr rfl rfl bd rfl ?_
   refine RV.done ?_
   refine CV.seq ?_
   refine sr rfl ?_
   refine ml rfl rfl bd rfl ?_
   refine p1 (ok_neq rfl rfl bd rfl rfl) ?_
   refine RV.done ?_
   refine CV.cond rfl (fun h2 => ?_) (fun h2 => ?_)
   ·refine sr rfl ?_
    refine p1 (ok_build0 rfl rfl bd) ?_
    refine ml rfl rfl bd rfl ?_
    refine p1 (ok_store rfl rfl rfl rfl rfl rfl rfl (ty_rat).2 rfl rfl rfl rfl) ?_
    refine mr rfl rfl bd rfl ?_
    refine RV.done ?_
    refine CV.ret ?_
    have hke : k = l.length := (by have := of_decide_eq_false hb; omega)
    subst hke
    rw [List.take_length] at h2 hk2
    have he : (parseI l).2 ≠ 0 := (by simpa using h2)
    have q : parseQ l = (0, 0, (parseI l).2) := (by unfold parseQ; rw [if_neg (by omega), cutB_none hk2, if_pos (.inl he), parse_zero _ he])
    rw [q, List.take_length]
    exact fin2 rfl (.inr rfl) ⟨_, _, _, _, _, rfl, rfl, rfl, ty_rat⟩ rfl (is_rt2 rfl rfl rfl (by omega))
   ·refine CV.skip ?_
    refine CV.seq ?_
    refine sr rfl ?_
    refine ml rfl rfl bd rfl ?_
    refine ml rfl rfl bd rfl ?_
    refine p1 (ok_lenT rfl u_str rfl rfl bd rfl) ?_
    refine p1 (ok_eql rfl rfl bd rfl rfl) ?_
    refine RV.done ?_
    refine CV.cond rfl (fun hc => ?_) (fun hc => False.elim (by simp at hc hb; omega))
    refine sr rfl ?_
    refine p1 (ok_load rfl rfl bd rfl rfl rfl ty_int) ?_
    refine p1 (ok_build1 rfl rfl bd rfl) ?_
    refine p1 (ok_store rfl rfl rfl rfl rfl rfl rfl (ty_rat).2 rfl rfl rfl rfl) ?_
    refine mr rfl rfl bd rfl ?_
    refine RV.done ?_
    refine CV.ret ?_
    have hke : k = l.length := (by have := of_decide_eq_false hb; omega)
    subst hke
    rw [List.take_length] at h2 hk2
    have he : (parseI l).2 = 0 := (by simpa using h2)
    have q : parseQ l = ((parseI l).1, 0, 0) := (by unfold parseQ; rw [if_neg (by omega), cutB_none hk2, if_pos (.inr rfl), he])
    rw [q]
    exact fin2 rfl (.inr rfl) ⟨_, _, _, _, _, rfl, rfl, rfl, ty_rat⟩ rfl (is_rt2 (by rw [List.take_length]) rfl rfl (by omega))
end
/-! Codes. -/
theorem rfEncode_con (a : Rat) (k : Nat) (hp : len a.num ≤ 1000000000) (hq : len (qd a) ≤ 1000000000) (h1 : (encI a.num).length + (encI (qd a)).length ≤ 1000000000000) : ConRow Tryz.prog 72 [RT a k] 5 none (ziV .u8 (encR a)) := by
 refine ConRow.of (n := 10) Tryz.func72 rfl rfl rfl rfl (ziV_vals _) fun cx hB => ?_
 refine sr rfl ?_
 refine p2 (ok_box (i := 0) rfl rfl bd rfl rfl rfl rfl rfl) ?_
 refine mr rfl rfl bd rfl ?_
 refine RV.done ?_
 refine CV.seq ?_
 refine CV.region rfl (fun _ => by kernel_rfl) ?_
 refine p1 (ok_fieldAddr fa_rat0 rfl rfl bd rfl) ?_
 refine p1 (ok_loadf 0 fld_num rfl rfl bd rfl rfl rfl rfl ty_int) ?_
 refine RV.step3 (OpOk.plain (ok_callRow (r := 5) (rEncode_con _ _ hp) (ziV_vals _) rfl rfl bd Tryz.func18 rfl rfl (.cons rfl Conv.any .nil) rfl rfl rfl) rfl) ?_
 refine p1 (ok_fieldAddr fa_rat1 rfl rfl bd rfl) ?_
 refine p1 (ok_loadf 2 fld_den rfl rfl bd rfl rfl rfl rfl ty_int) ?_
 refine p1 (ok_callRowD (G := Dm.gen (lstG none (ziV .u8 (encI (qd a))))) (rEncode_con _ _ hq) (ziV_vals _) (lstG_Lst none _) (lstG_Lst0 none _) rfl rfl bd Tryz.func18 rfl rfl (.cons rfl Conv.any .nil)) ?_
 refine RV.step4 (OpOk.plain (ok_appendN (r := 5) (r' := 9) (k := none) (lst_elems (by decide) (ziV_ptrs _)) (by rw [ziV_length, ziV_length]; omega) (by rw [ziV_length, ziV_length]; omega) u_bytes inf_u8 rfl rfl (by rw [ziV_length]) rfl rfl bd rfl rfl rfl rfl rfl rfl rfl) rfl) ?_
 refine mr rfl rfl bd rfl ?_
 refine RV.drawn (by kernel_rfl) ?_
 refine CV.ret ?_
 exact finRow (ziV_append _ _) (by rw [ziV_length, ziV_length, ziV_length]; show _ = (encI a.num ++ encI (qd a)).length; rw [List.length_append]) rfl (.inr rfl) rfl rfl
theorem is_decQ {bs : List Int} {p q : Int} {u : Nat} {e : Int} {k : Nat} (h : decQ bs = (p, q, u, e)) : ∀ L ρ w v, (AV.tup [.d (Dm.rt p q k), .v (.int .i64 (u : Int)), .v (.int .i64 e)]).is L ρ w v → (AV.tup [.d (Dm.rt (decQ bs).1 (decQ bs).2.1 k), .v (.int .i64 ((decQ bs).2.2.1 : Nat)), .v (.int .i64 (decQ bs).2.2.2)]).is L ρ w v := by
 rw [h]
 exact fun _ _ _ _ h => h
theorem is_decQz {bs : List Int} {e : Int} {j k : Nat} (hj : j ≤ k) (h : decQ bs = (0, 0, 0, e)) : ∀ L ρ w v, (AV.tup [.d (Dm.rt 0 0 j), .v (.int .i64 0), .v (.int .i64 e)]).is L ρ w v → (AV.tup [.d (Dm.rt (decQ bs).1 (decQ bs).2.1 k), .v (.int .i64 ((decQ bs).2.2.1 : Nat)), .v (.int .i64 (decQ bs).2.2.2)]).is L ρ w v := by
 rw [h]
 exact is_tri (is_rt rfl rfl hj) rfl rfl
section
variable (bs : List Int) (hb : W.Bs bs) (hl : bs.length ≤ 1000)
include hb hl
theorem RDecode_con : Con Tryz.prog 70 [ZI .u8 bs] (.tup [.d (Dm.rt (decQ bs).1 (decQ bs).2.1 1000), .v (.int .i64 ((decQ bs).2.2.1 : Nat)), .v (.int .i64 (decQ bs).2.2.2)]) := by
 have hbd := decI_bd hb
 obtain ⟨p, m, e, hd⟩ : ∃ p m e, decI bs = (p, m, e) := ⟨_, _, _, rfl⟩
 obtain ⟨q, u, f, hd2⟩ : ∃ q u f, decI (bs.drop m) = (q, u, f) := ⟨_, _, _, rfl⟩
 rw [hd] at hbd
 simp only at hbd
 have hbd2 := decI_bd (hb.drop m)
 rw [hd2, List.length_drop] at hbd2
 simp only at hbd2
 have hq : decQ bs = (if e ≠ 0 then (0, 0, 0, e) else if f ≠ 0 then (0, 0, 0, f) else if q = 0 ∨ (0 ≤ q ∧ q ≠ 1 ∧ Int.gcd p q = 1) then (p, q, m + u, 0) else (0, 0, 0, 2)) := by unfold decQ; rw [hd]; simp only; rw [hd2]
 refine Con.of (n := 44) Tryz.func70 rfl rfl rfl rfl rfl fun cx hfr => ?_
 refine sr rfl ?_
 refine p2 (ok_alloc (i := 0) rfl rfl bd zero_rat rfl rfl rfl rfl) ?_
 refine mr rfl rfl bd rfl ?_
 refine mr rfl rfl bd rfl ?_
 refine RV.done (sr rfl ?_)
 refine ml rfl rfl bd rfl ?_
 refine p1 (ok_call ((show Con Tryz.prog _ _ (.tup [.d (Dm.int p 1000), .v (.int .i64 (m : Int)), .v (.int .i64 e)]) from by have q := Decode_con bs hb hl; rw [hd] at q; exact q)) rfl rfl bd Tryz.func13 rfl rfl (.cons rfl Conv.any .nil) rfl hfr rfl) ?_
 refine ml rfl rfl bd rfl ?_
 refine p1 (ok_extract rfl rfl bd rfl rfl) ?_
 refine p1 (ok_extract rfl rfl bd rfl rfl) ?_
 refine p1 (ok_extract rfl rfl bd rfl rfl) ?_
 refine p2 (ok_alloc (i := 1) rfl rfl bd zero_int rfl rfl rfl rfl) ?_
 refine p1 (ok_store rfl rfl rfl rfl rfl rfl rfl (ty_int).2 rfl rfl rfl rfl) ?_
 refine mr rfl rfl bd rfl ?_
 refine mr rfl rfl bd rfl ?_
 refine RV.done ?_
 refine CV.seq ?_
 refine sr rfl ?_
 refine ml rfl rfl bd rfl ?_
 refine p1 (ok_neq rfl rfl bd rfl rfl) ?_
 refine RV.done ?_
 refine CV.cond rfl (fun h1 => ?_) (fun h1 => ?_)
 ·refine sr rfl ?_
  refine p1 (ok_build0 rfl rfl bd) ?_
  refine ml rfl rfl bd rfl ?_
  refine p1 (ok_store rfl rfl rfl rfl rfl rfl rfl (ty_rat).2 rfl rfl rfl rfl) ?_
  refine mr rfl rfl bd rfl ?_
  refine mr rfl rfl bd rfl ?_
  refine RV.done ?_
  refine CV.ret ?_
  have g1 : e ≠ 0 := (by simpa using h1)
  rw [if_pos g1] at hq
  exact fin3 rfl (.inr rfl) ⟨_, _, _, _, _, rfl, rfl, rfl, ty_rat⟩ rfl rfl (is_decQz (by omega) hq)
 ·refine CV.skip ?_
  refine sr rfl ?_
  refine ml rfl rfl bd rfl ?_
  refine ml rfl rfl bd rfl ?_
  refine p1 (ok_cutL (k := none) (l' := ziV .u8 (bs.drop m)) (some m) none none (by show ((ziV .u8 bs).take (ziV .u8 bs).length).drop m = _; rw [List.take_length, ziV_drop]) (by decide) (by rw [ziV_length]; exact hbd.2) (Nat.le_refl _) (Nat.le_refl _) (fun _ => rfl) u_bytes sz_u8 rfl rfl bd rfl rfl trivial trivial) ?_
  refine p1 (ok_call ((show Con Tryz.prog _ _ (.tup [.d (Dm.int q 1000), .v (.int .i64 (u : Int)), .v (.int .i64 f)]) from by have q := Decode_con (bs.drop m) (hb.drop m) (by rw [List.length_drop]; omega); rw [hd2] at q; exact q)) rfl rfl bd Tryz.func13 rfl rfl (.cons rfl Conv.any .nil) rfl hfr rfl) ?_
  refine ml rfl rfl bd rfl ?_
  refine p1 (ok_extract rfl rfl bd rfl rfl) ?_
  refine p1 (ok_extract rfl rfl bd rfl rfl) ?_
  refine p1 (ok_extract rfl rfl bd rfl rfl) ?_
  refine p2 (ok_alloc (i := 2) rfl rfl bd zero_int rfl rfl rfl rfl) ?_
  refine p1 (ok_store rfl rfl rfl rfl rfl rfl rfl (ty_int).2 rfl rfl rfl rfl) ?_
  refine mr rfl rfl bd rfl ?_
  refine mr rfl rfl bd rfl ?_
  refine RV.done ?_
  refine CV.seq ?_
  refine sr rfl ?_
  refine ml rfl rfl bd rfl ?_
  refine p1 (ok_neq rfl rfl bd rfl rfl) ?_
  refine RV.done ?_
  refine CV.cond rfl (fun h2 => ?_) (fun h2 => ?_)
  ·refine sr rfl ?_
   refine p1 (ok_build0 rfl rfl bd) ?_
   refine ml rfl rfl bd rfl ?_
   refine p1 (ok_store rfl rfl rfl rfl rfl rfl rfl (ty_rat).2 rfl rfl rfl rfl) ?_
   refine mr rfl rfl bd rfl ?_
   refine mr rfl rfl bd rfl ?_
   refine RV.done ?_
   refine CV.ret ?_
   have g1 : ¬ e ≠ 0 := (by simpa using h1)
   have g2 : f ≠ 0 := (by simpa using h2)
   rw [if_neg g1, if_pos g2] at hq
   exact fin3 rfl (.inr rfl) ⟨_, _, _, _, _, rfl, rfl, rfl, ty_rat⟩ rfl rfl (is_decQz (by omega) hq)
  ·refine CV.skip ?_
   refine sr rfl ?_
   refine p1 (ok_load rfl rfl bd rfl rfl rfl ty_int) ?_
   refine p1 (ok_load rfl rfl bd rfl rfl rfl ty_int) ?_
   refine p1 (ok_build2 rfl rfl bd rfl rfl) ?_
   refine p2 (ok_alloc (i := 3) rfl rfl bd zero_rat rfl rfl rfl rfl) ?_
   refine p1 (ok_store rfl rfl rfl rfl rfl rfl rfl (ty_rat).2 rfl rfl rfl rfl) ?_
   refine RV.done ?_
   refine CV.seq ?_
   refine sr rfl ?_
   refine p1 (ok_load rfl rfl bd rfl rfl rfl ty_rat) ?_
   refine p1 (ok_call (RValidG_con _ _ _ (by decide)) rfl rfl bd Tryz.func30 rfl rfl (.cons rfl Conv.any .nil) rfl hfr rfl) ?_
   refine p1 (ok_not rfl rfl bd rfl) ?_
   refine RV.done ?_
   refine CV.cond rfl (fun h3 => ?_) (fun h3 => ?_)
   ·refine sr rfl ?_
    refine p1 (ok_build0 rfl rfl bd) ?_
    refine p1 (ok_store rfl rfl rfl rfl rfl rfl rfl (ty_rat).2 rfl rfl rfl rfl) ?_
    refine mr rfl rfl bd rfl ?_
    refine mr rfl rfl bd rfl ?_
    refine RV.done ?_
    refine CV.ret ?_
    have g1 : ¬ e ≠ 0 := (by simpa using h1)
    have g2 : ¬ f ≠ 0 := (by simpa using h2)
    have g3 : ¬ (q = 0 ∨ (0 ≤ q ∧ q ≠ 1 ∧ Int.gcd p q = 1)) := (by intro h; rw [decide_eq_true h] at h3; cases h3)
    rw [if_neg g1, if_neg g2, if_neg g3] at hq
    exact fin3 rfl (.inr rfl) ⟨_, _, _, _, _, rfl, rfl, rfl, ty_rat⟩ rfl rfl (is_decQz (by omega) hq)
   ·refine CV.skip ?_
    refine sr rfl ?_
    refine p1 (ok_load rfl rfl bd rfl rfl rfl ty_rat) ?_
    refine ml rfl rfl bd rfl ?_
    refine ml rfl rfl bd rfl ?_
    refine p1 (ok_add (c := ((m + u : Nat) : Int)) (by rw [wrapI (by omega) (by omega)]; omega) rfl rfl bd rfl rfl) ?_
    refine p1 (ok_store rfl rfl rfl rfl rfl rfl rfl (ty_rat).2 rfl rfl rfl rfl) ?_
    refine mr rfl rfl bd rfl ?_
    refine mr rfl rfl bd rfl ?_
    refine RV.done ?_
    refine CV.ret ?_
    have g1 : ¬ e ≠ 0 := (by simpa using h1)
    have g2 : ¬ f ≠ 0 := (by simpa using h2)
    have g3 : (q = 0 ∨ (0 ≤ q ∧ q ≠ 1 ∧ Int.gcd p q = 1)) := (by refine Decidable.byContradiction fun h => ?_; rw [decide_eq_false h] at h3; cases h3)
    rw [if_neg g1, if_neg g2, if_pos g3] at hq
    exact fin3 rfl (.inr rfl) ⟨_, _, _, _, _, rfl, rfl, rfl, ty_rat⟩ rfl rfl (is_decQ hq)
theorem rfDecode_con : Con Tryz.prog 74 [ZI .u8 bs] (.tup [.d (Dm.rt (decQ bs).1 (decQ bs).2.1 1000), .v (.int .i64 ((decQ bs).2.2.1 : Nat)), .v (.int .i64 (decQ bs).2.2.2)]) := by
 have hbd := decI_bd hb
 obtain ⟨p, m, e, hd⟩ : ∃ p m e, decI bs = (p, m, e) := ⟨_, _, _, rfl⟩
 obtain ⟨q, u, f, hd2⟩ : ∃ q u f, decI (bs.drop m) = (q, u, f) := ⟨_, _, _, rfl⟩
 rw [hd] at hbd
 simp only at hbd
 have hbd2 := decI_bd (hb.drop m)
 rw [hd2, List.length_drop] at hbd2
 simp only at hbd2
 have hq : decQ bs = (if e ≠ 0 then (0, 0, 0, e) else if f ≠ 0 then (0, 0, 0, f) else if q = 0 ∨ (0 ≤ q ∧ q ≠ 1 ∧ Int.gcd p q = 1) then (p, q, m + u, 0) else (0, 0, 0, 2)) := by unfold decQ; rw [hd]; simp only; rw [hd2]
 refine Con.of (n := 45) Tryz.func74 rfl rfl rfl rfl rfl fun cx hfr => ?_
 refine sr rfl ?_
 refine p2 (ok_alloc (i := 0) rfl rfl bd zero_rat rfl rfl rfl rfl) ?_
 refine mr rfl rfl bd rfl ?_
 refine mr rfl rfl bd rfl ?_
 refine RV.done (sr rfl ?_)
 refine ml rfl rfl bd rfl ?_
 refine p1 (ok_call ((show Con Tryz.prog _ _ (.tup [.d (Dm.int p 1000), .v (.int .i64 (m : Int)), .v (.int .i64 e)]) from by have q := rDecode_con bs hb hl; rw [hd] at q; exact q)) rfl rfl bd Tryz.func23 rfl rfl (.cons rfl Conv.any .nil) rfl hfr rfl) ?_
 refine ml rfl rfl bd rfl ?_
 refine p1 (ok_extract rfl rfl bd rfl rfl) ?_
 refine p1 (ok_extract rfl rfl bd rfl rfl) ?_
 refine p1 (ok_extract rfl rfl bd rfl rfl) ?_
 refine p2 (ok_alloc (i := 1) rfl rfl bd zero_int rfl rfl rfl rfl) ?_
 refine p1 (ok_store rfl rfl rfl rfl rfl rfl rfl (ty_int).2 rfl rfl rfl rfl) ?_
 refine mr rfl rfl bd rfl ?_
 refine mr rfl rfl bd rfl ?_
 refine RV.done ?_
 refine CV.seq ?_
 refine sr rfl ?_
 refine ml rfl rfl bd rfl ?_
 refine p1 (ok_neq rfl rfl bd rfl rfl) ?_
 refine RV.done ?_
 refine CV.cond rfl (fun h1 => ?_) (fun h1 => ?_)
 ·refine sr rfl ?_
  refine p1 (ok_build0 rfl rfl bd) ?_
  refine ml rfl rfl bd rfl ?_
  refine p1 (ok_store rfl rfl rfl rfl rfl rfl rfl (ty_rat).2 rfl rfl rfl rfl) ?_
  refine mr rfl rfl bd rfl ?_
  refine mr rfl rfl bd rfl ?_
  refine RV.done ?_
  refine CV.ret ?_
  have g1 : e ≠ 0 := (by simpa using h1)
  rw [if_pos g1] at hq
  exact fin3 rfl (.inr rfl) ⟨_, _, _, _, _, rfl, rfl, rfl, ty_rat⟩ rfl rfl (is_decQz (by omega) hq)
 ·refine CV.skip ?_
  refine sr rfl ?_
  refine ml rfl rfl bd rfl ?_
  refine ml rfl rfl bd rfl ?_
  refine p1 (ok_cutL (k := none) (l' := ziV .u8 (bs.drop m)) (some m) none none (by show ((ziV .u8 bs).take (ziV .u8 bs).length).drop m = _; rw [List.take_length, ziV_drop]) (by decide) (by rw [ziV_length]; exact hbd.2) (Nat.le_refl _) (Nat.le_refl _) (fun _ => rfl) u_bytes sz_u8 rfl rfl bd rfl rfl trivial trivial) ?_
  refine p1 (ok_call ((show Con Tryz.prog _ _ (.tup [.d (Dm.int q 1000), .v (.int .i64 (u : Int)), .v (.int .i64 f)]) from by have q := rDecode_con (bs.drop m) (hb.drop m) (by rw [List.length_drop]; omega); rw [hd2] at q; exact q)) rfl rfl bd Tryz.func23 rfl rfl (.cons rfl Conv.any .nil) rfl hfr rfl) ?_
  refine ml rfl rfl bd rfl ?_
  refine p1 (ok_extract rfl rfl bd rfl rfl) ?_
  refine p1 (ok_extract rfl rfl bd rfl rfl) ?_
  refine p1 (ok_extract rfl rfl bd rfl rfl) ?_
  refine p2 (ok_alloc (i := 2) rfl rfl bd zero_int rfl rfl rfl rfl) ?_
  refine p1 (ok_store rfl rfl rfl rfl rfl rfl rfl (ty_int).2 rfl rfl rfl rfl) ?_
  refine mr rfl rfl bd rfl ?_
  refine mr rfl rfl bd rfl ?_
  refine RV.done ?_
  refine CV.seq ?_
  refine sr rfl ?_
  refine ml rfl rfl bd rfl ?_
  refine p1 (ok_neq rfl rfl bd rfl rfl) ?_
  refine RV.done ?_
  refine CV.cond rfl (fun h2 => ?_) (fun h2 => ?_)
  ·refine sr rfl ?_
   refine p1 (ok_build0 rfl rfl bd) ?_
   refine ml rfl rfl bd rfl ?_
   refine p1 (ok_store rfl rfl rfl rfl rfl rfl rfl (ty_rat).2 rfl rfl rfl rfl) ?_
   refine mr rfl rfl bd rfl ?_
   refine mr rfl rfl bd rfl ?_
   refine RV.done ?_
   refine CV.ret ?_
   have g1 : ¬ e ≠ 0 := (by simpa using h1)
   have g2 : f ≠ 0 := (by simpa using h2)
   rw [if_neg g1, if_pos g2] at hq
   exact fin3 rfl (.inr rfl) ⟨_, _, _, _, _, rfl, rfl, rfl, ty_rat⟩ rfl rfl (is_decQz (by omega) hq)
  ·refine CV.skip ?_
   refine sr rfl ?_
   refine p1 (ok_load rfl rfl bd rfl rfl rfl ty_int) ?_
   refine p1 (ok_load rfl rfl bd rfl rfl rfl ty_int) ?_
   refine p1 (ok_build2 rfl rfl bd rfl rfl) ?_
   refine p2 (ok_alloc (i := 3) rfl rfl bd zero_rat rfl rfl rfl rfl) ?_
   refine p1 (ok_store rfl rfl rfl rfl rfl rfl rfl (ty_rat).2 rfl rfl rfl rfl) ?_
   refine RV.done ?_
   refine CV.seq ?_
   refine sr rfl ?_
   refine p1 (ok_load rfl rfl bd rfl rfl rfl ty_rat) ?_
   refine p1 (ok_call (rfValidG_con _ _ _ (by decide)) rfl rfl bd Tryz.func31 rfl rfl (.cons rfl Conv.any .nil) rfl hfr rfl) ?_
   refine p1 (ok_not rfl rfl bd rfl) ?_
   refine RV.done ?_
   refine CV.cond rfl (fun h3 => ?_) (fun h3 => ?_)
   ·refine sr rfl ?_
    refine p1 (ok_build0 rfl rfl bd) ?_
    refine p1 (ok_store rfl rfl rfl rfl rfl rfl rfl (ty_rat).2 rfl rfl rfl rfl) ?_
    refine mr rfl rfl bd rfl ?_
    refine mr rfl rfl bd rfl ?_
    refine RV.done ?_
    refine CV.ret ?_
    have g1 : ¬ e ≠ 0 := (by simpa using h1)
    have g2 : ¬ f ≠ 0 := (by simpa using h2)
    have g3 : ¬ (q = 0 ∨ (0 ≤ q ∧ q ≠ 1 ∧ Int.gcd p q = 1)) := (by intro h; rw [decide_eq_true h] at h3; cases h3)
    rw [if_neg g1, if_neg g2, if_neg g3] at hq
    exact fin3 rfl (.inr rfl) ⟨_, _, _, _, _, rfl, rfl, rfl, ty_rat⟩ rfl rfl (is_decQz (by omega) hq)
   ·refine CV.skip ?_
    refine sr rfl ?_
    refine p1 (ok_load rfl rfl bd rfl rfl rfl ty_rat) ?_
    refine ml rfl rfl bd rfl ?_
    refine ml rfl rfl bd rfl ?_
    refine p1 (ok_add (c := ((m + u : Nat) : Int)) (by rw [wrapI (by omega) (by omega)]; omega) rfl rfl bd rfl rfl) ?_
    refine p1 (ok_store rfl rfl rfl rfl rfl rfl rfl (ty_rat).2 rfl rfl rfl rfl) ?_
    refine mr rfl rfl bd rfl ?_
    refine mr rfl rfl bd rfl ?_
    refine RV.done ?_
    refine CV.ret ?_
    have g1 : ¬ e ≠ 0 := (by simpa using h1)
    have g2 : ¬ f ≠ 0 := (by simpa using h2)
    have g3 : (q = 0 ∨ (0 ≤ q ∧ q ≠ 1 ∧ Int.gcd p q = 1)) := (by refine Decidable.byContradiction fun h => ?_; rw [decide_eq_false h] at h3; cases h3)
    rw [if_neg g1, if_neg g2, if_pos g3] at hq
    exact fin3 rfl (.inr rfl) ⟨_, _, _, _, _, rfl, rfl, rfl, ty_rat⟩ rfl rfl (is_decQ hq)
end
theorem RDecodeT_con (a : Rat) (t : List Int) (hp : len a.num ≤ 1000000000) (hq : len (qd a) ≤ 1000000000) (hb : W.Bs t) (hl : (encR a ++ t).length ≤ 1000) : Con Tryz.prog 70 [ZI .u8 (encR a ++ t)] (.tup [RT a 1000, .v (.int .i64 ((encR a).length : Nat)), .v (.int .i64 0)]) := by
 have q := RDecode_con (encR a ++ t) (((encI_bs _).append (encI_bs _)).append hb) hl
 rwa [decQ_enc a hp hq t] at q

theorem normalF_con (z : Int) (b : Bool) (k : Nat) (hb0 : decide (z < 0) = b) (hz : z ≠ 0) (hk : len z ≤ k) (hk2 : k ≤ 1000000) : ConF Tryz.prog 78 [.v (.bool b), ZI .i64 ((dig z.natAbs).map Int.ofNat)] (.one (.d (Dm.int z k))) := by
 have h0 : 0 < (dig z.natAbs).length := List.length_pos_iff.2 fun e => by have := dig_eq_nil.1 e; omega
 have hlast : (dig z.natAbs).getD ((dig z.natAbs).length - 1) 0 ≠ 0 := dig_last (by omega)
 have hL : (dig z.natAbs).length ≤ 1000000 := Nat.le_trans hk hk2
 refine ConF.of (n := 29) Tryz.func78 rfl rfl rfl rfl rfl fun cx hB => ?_
 refine sr rfl ?_
 refine p2 (ok_alloc (i := 0) rfl rfl bd zero_int rfl rfl rfl rfl) ?_
 refine RV.done (sr rfl ?_)
 refine ml rfl rfl bd rfl ?_
 refine p1 (ok_lenL (m := (dig z.natAbs).length) (by rw [ziV_length, List.length_map]) u_ints rfl rfl bd rfl) ?_
 refine mr rfl rfl bd rfl ?_
 refine RV.done ?_
 refine CV.seq ?_
 refine CV.block ?_
 refine CV.loop (X := Unit) (fun _ => [(.s 5, .av (.one (.v (.int .i64 ((dig z.natAbs).length : Int))))), (.s 1, .av (.one (ZI .i64 ((dig z.natAbs).map Int.ofNat)))), (.s 0, .av (.one (.v (.bool b)))), (.s 4, .av (.one (.ptr 0 0))), (.b 0, .blk 25 [(some 2, .v (.agg #[.bool false, .slice none 0 0]))])]) (fun _ => 0) () (Sub.mk ⟨XV.le_rfl _, XV.le_rfl _, XV.le_rfl _, XV.le_rfl _, XV.le_rfl _, trivial⟩ rfl rfl) (fun _ => ?_)
 refine CV.seq ?_
 refine sr rfl ?_
 refine ml rfl rfl bd rfl ?_
 refine p1 (ok_gtr rfl rfl bd rfl rfl) ?_
 refine ml rfl rfl bd rfl ?_
 refine RV.bool (fun hb => ?_) (fun hb => False.elim (by have := of_decide_eq_false hb; omega))
 refine RV.step1 (OpOk.yes (ok_move (.inl rfl) rfl bd rfl) rfl rfl rfl) ?_
 refine RV.step1 (OpOk.yes (ok_move (.inl rfl) rfl bd rfl) rfl rfl rfl) ?_
 refine RV.step1 (OpOk.yes (ok_sub (c := (((dig z.natAbs).length - 1 : Nat) : Int)) (by rw [wrapI (by omega) (by omega)]; omega) rfl rfl bd rfl rfl) rfl rfl rfl) ?_
 refine RV.step1 (OpOk.yes (ok_maxI (c := (((dig z.natAbs).length - 1 : Nat) : Int)) (by split <;> omega) rfl rfl bd rfl rfl) rfl rfl rfl) ?_
 refine RV.step1 (OpOk.yes (ok_idxL (k := none) (i := (dig z.natAbs).length - 1) (ziV_at (by rw [List.length_map]; omega)) u_ints sz_i64 (by decide) rfl rfl bd rfl rfl) rfl rfl rfl) ?_
 refine RV.step1 (OpOk.yes (ok_loadP ty_i64 (by decide) rfl rfl bd rfl) rfl rfl rfl) ?_
 refine RV.step1 (OpOk.yes (ok_eqlB (r := false) (by rw [beq_eq_false_iff_ne]; simp only [List.getD_eq_getElem?_getD, List.getElem?_map] at hlast ⊢; rw [List.getElem?_eq_getElem (by omega)] at hlast ⊢; simpa using hlast) rfl rfl bd rfl rfl) rfl rfl rfl) ?_
 refine p1 (ok_pickT rfl rfl bd rfl rfl rfl) ?_
 refine RV.done ?_
 refine CV.no rfl ?_
 refine CV.exit ?_
 refine CV.seq ?_
 refine sr rfl ?_
 refine ml rfl rfl bd rfl ?_
 refine p1 (ok_eqlB (r := false) (by rw [beq_eq_false_iff_ne]; omega) rfl rfl bd rfl rfl) ?_
 refine RV.done ?_
 refine CV.no rfl ?_
 refine CV.skip ?_
 refine sr rfl ?_
 refine ml rfl rfl bd rfl ?_
 refine ml rfl rfl bd rfl ?_
 refine ml rfl rfl bd rfl ?_
 refine p1 (ok_cutL (k := none) (l' := ziV .i64 ((dig z.natAbs).map Int.ofNat)) none (some (dig z.natAbs).length) none (by show ((ziV .i64 ((dig z.natAbs).map Int.ofNat)).take (dig z.natAbs).length).drop 0 = _; rw [List.drop_zero, List.take_of_length_le (by rw [ziV_length, List.length_map]; exact Nat.le_refl _)]) (by decide) (Nat.zero_le _) (by show (dig z.natAbs).length ≤ (ziV .i64 ((dig z.natAbs).map Int.ofNat)).length; rw [ziV_length, List.length_map]; exact Nat.le_refl _) (Nat.le_refl _) (fun h => nomatch h) u_ints sz_i64 rfl rfl bd rfl trivial rfl trivial) ?_
 refine p1 (ok_braw rfl rfl bd rfl rfl) ?_
 refine p1 (ok_store rfl rfl rfl rfl rfl rfl rfl (ty_int).2 rfl rfl rfl rfl) ?_
 refine RV.done ?_
 refine CV.ret ?_
 exact fin1 rfl (.inr rfl) ⟨_, _, _, _, _, rfl, rfl, rfl, ty_int⟩ (raw_int hb0 rfl hk)
theorem rOfF_con (n : Nat) (hn0 : 0 < n) (hn9 : n < 1000000000) (hdig : dig n = [n]) : ConF (D := Dm) Tryz.prog 29 [.v (.int .i64 (n : Int))] (.one (.d (Dm.int (n : Int) 1))) := by
 refine ConF.of (n := 25) Tryz.func29 rfl rfl rfl rfl rfl fun cx hB => ?_
 refine sr rfl ?_
 refine p2 (ok_alloc (i := 0) rfl rfl bd zero_int rfl rfl rfl rfl) ?_
 refine RV.done (sr rfl ?_)
 refine mr rfl rfl bd rfl ?_
 refine RV.done ?_
 refine CV.seq ?_
 refine CV.nilrow 3 10 3 none rfl rfl rfl rfl ?_
 refine CV.kp [10] rfl rfl ?_
 refine CV.region rfl (fun h => nomatch h) ?_
 refine ml rfl rfl bd rfl ?_
 refine p1 (ok_lssB (r := false) (by rw [decide_eq_false_iff_not]; omega) rfl rfl bd rfl rfl) ?_
 refine mr rfl rfl bd rfl ?_
 refine RV.done ?_
 refine CV.seq ?_
 refine CV.block ?_
 refine CV.loop (X := {q : Nat × List Int // (q.1 = n ∧ q.2 = []) ∨ (q.1 = 0 ∧ q.2 = [(n : Int)])}) (fun q => [(.s 0, .av (.one (.v (.int .i64 (q.1.1 : Int))))), (.s 3, .av (.one (.sl 10 q.1.2.length))), (.b 10, .row 3 none (ziV .i64 q.1.2)), (KP, .np [10]), (.s 4, .av (.one (.v (.bool false)))), (.s 2, .av (.one (.ptr 0 0))), (.b 0, .blk 25 [(some 2, .v (.agg #[.bool false, .slice none 0 0]))])]) (fun q => q.1.1) ⟨(n, []), .inl ⟨rfl, rfl⟩⟩ (Sub.mk ⟨XV.le_rfl _, XV.le_rfl _, XV.le_rfl _, trivial, XV.le_rfl _, XV.le_rfl _, XV.le_rfl _, trivial⟩ rfl rfl rfl rfl) (fun q => ?_)
 obtain ⟨⟨m, zs⟩, hq⟩ := q
 simp only at hq ⊢
 refine CV.seq ?_
 refine sr rfl ?_
 refine ml rfl rfl bd rfl ?_
 refine p1 (ok_neq rfl rfl bd rfl rfl) ?_
 refine RV.done ?_
 refine CV.cond rfl (fun hc => ?_) (fun hc => ?_)
 ·obtain ⟨hm, hzs⟩ : m = n ∧ zs = [] := (hq.resolve_right (by rintro ⟨rfl, _⟩; simp at hc))
  subst hzs
  rw [hm]
  refine CV.skip ?_
  refine CV.block ?_
  refine sr rfl ?_
  refine ml rfl rfl bd rfl ?_
  refine p1 (ok_remC (c := (n : Int)) (by decide) (by rw [Int.tmod_eq_emod_of_nonneg (by omega)]; omega) rfl rfl bd rfl rfl) ?_
  refine mr rfl rfl bd rfl ?_
  refine RV.done ?_
  refine CV.seq ?_
  refine sr rfl ?_
  refine ml rfl rfl bd rfl ?_
  refine p1 (ok_lssB (r := false) (by rw [decide_eq_false_iff_not]; omega) rfl rfl bd rfl rfl) ?_
  refine RV.done ?_
  refine CV.no rfl ?_
  refine CV.skip ?_
  refine sr rfl ?_
  refine ml rfl rfl bd rfl ?_
  refine ml rfl rfl bd rfl ?_
  refine p1 (ok_litD (G := Dm.gen (lstG none [_])) (lstG_Lst none _) u_ints zs_i64 rfl rfl rfl (by intro s hs; obtain rfl := List.mem_singleton.1 hs; rfl) rfl rfl rfl bd (.cons rfl Conv.any .nil)) ?_
  refine RV.step4 (OpOk.plain (ok_appendN (r := 10) (r' := 11) (k := none) (lst_elems (by decide) rfl) (by show (0 + 1) * 8 ≤ _; decide) (by show 0 + 1 ≤ _; decide) u_ints inf_i64 rfl rfl rfl rfl rfl bd rfl rfl rfl rfl rfl rfl rfl) rfl) ?_
  refine mr rfl rfl bd rfl ?_
  refine RV.done ?_
  refine CV.region rfl (fun h => nomatch h) ?_
  refine ml rfl rfl bd rfl ?_
  refine p1 (ok_quo (c := ((0 : Nat) : Int)) (by decide) (by rw [Int.tdiv_eq_ediv_of_nonneg (by omega), wrapI (by omega) (by omega)]; omega) rfl rfl bd rfl rfl) ?_
  refine mr rfl rfl bd rfl ?_
  refine RV.done ?_
  exact ⟨⟨(0, [(n : Int)]), .inr ⟨rfl, rfl⟩⟩, Sub.mkr (fun i => if i = 10 then 11 else i) ⟨XV.le_same, XV.le_sl rfl rfl, XV.le_row rfl, trivial, XV.le_same, fun _ _ _ _ h => h, ⟨rfl, fun _ _ _ _ h => h⟩, trivial⟩ rfl rfl rfl rfl, by show 0 < n; omega⟩
 ·refine CV.exit ?_
  refine CV.seq ?_
  have hz : zs = [(n : Int)] := (hq.elim (fun h => absurd (show (m : Int) = 0 from by simpa using hc) (by omega)) (fun h => h.2))
  subst hz
  refine CV.freeze (r := 10) (t := 3) (G := Dm.gen (lstG none (ziV .i64 [(n : Int)]))) hB rfl rfl rfl rfl rfl (lstG_Lst none _) (lstG_Lst0 none _) ?_
  refine CV.kp [] rfl rfl ?_
  refine CV.region rfl (fun h => nomatch h) ?_
  refine ml rfl rfl bd rfl ?_
  refine ml rfl rfl bd rfl ?_
  refine p1 (ok_callF (normalF_con (n : Int) false 1 (by rw [decide_eq_false_iff_not]; omega) (by omega) (by show (dig (n : Int).natAbs).length ≤ 1; rw [Int.natAbs_natCast, hdig]; exact Nat.le_refl _) (by decide)) rfl rfl bd Tryz.func78 rfl rfl (.cons rfl Conv.any (.cons rfl ⟨rfl, lst_eqv (by rw [Int.natAbs_natCast, hdig]; rfl)⟩ .nil)) rfl) ?_
  refine p1 (ok_store rfl rfl rfl rfl rfl rfl rfl (ty_int).2 rfl rfl rfl rfl) ?_
  refine RV.done ?_
  refine CV.ret ?_
  exact fin1 rfl (.inr rfl) ⟨_, _, _, _, _, rfl, rfl, rfl, ty_int⟩ is_rfl

def txQ (s : List UInt8) (p : Int) (c : UInt8) (a : Rat) : List (List UInt8) := [(txtQ a).set (aroundN p (txtQ a).length) c, s.take 60, txtQ a ++ [47, 50], [45] ++ txtQ a, txtQ a ++ [48], txtQ a ++ [47], [47] ++ txtQ a, [48, 47] ++ txtQ a, [50, 47, 52], []]
def cdQ (b : List Int) (p : Int) (c : UInt8) (a : Rat) : List (List Int) := [(encR a).set (aroundN p (encR a).length) (c.toNat : Int), b.take 60, (encR a).take ((encR a).length - 1), encI 2 ++ encI 4, encI a.num]
theorem encR_bs (a : Rat) : W.Bs (encR a) := (encI_bs _).append (encI_bs _)
theorem five {α : Type} {i : Nat} {a b c d e g : α} (h : i < 5) {P : α → Prop} (ha : P a) (hb : P b) (hc : P c) (hd : P d) (he : P e) : P ([a, b, c, d, e].getD i g) := by
 rcases (show i = 0 ∨ i = 1 ∨ i = 2 ∨ i = 3 ∨ i = 4 by omega) with rfl | rfl | rfl | rfl | rfl <;> assumption
theorem cdQ_ok {b : List Int} (hb : W.Bs b) (p : Int) (c : UInt8) {a : Rat} (h1 : len a.num ≤ 14) (h2 : len (qd a) ≤ 14) {k : Nat} (h : k < 5) : W.Bs ((cdQ b p c a).getD k []) ∧ ((cdQ b p c a).getD k []).length ≤ 1000 := by
 have hc := c.toNat_lt
 have he := encR_bs a
 have l1 := encI_length a.num
 have l2 := encI_length (qd a)
 have hl : (encR a).length ≤ 300 := by show (encI a.num ++ encI (qd a)).length ≤ _; rw [List.length_append]; omega
 exact five (P := fun r => W.Bs r ∧ r.length ≤ 1000) h ⟨bs_set he _ ⟨by omega, by omega⟩, by rw [List.length_set]; omega⟩ ⟨hb.take 60, by rw [List.length_take]; omega⟩ ⟨he.take _, by rw [List.length_take]; omega⟩ ⟨(encI_bs 2).append (encI_bs 4), by decide⟩ ⟨encI_bs _, by omega⟩
theorem NumberA_con {l : List Int} {a : Rat} (h : numRp l 0 = a) : Con Tryz.prog 39 [.d (Dm.ints l), .v (.int .i64 0)] (.one (RT a 14)) := h ▸ NumberRp_con l 0 (by decide)

section
variable (l : List Int) (s : List UInt8) (b : List Int) (p : Int) (c : UInt8) (a : Rat) (hx : numRp l 0 = a) (hb : W.Bs b) (hp1 : -9223372036854775808 ≤ p) (hp2 : p ≤ 9223372036854775807) (ha1 : len a.num ≤ 14) (ha2 : len (qd a) ≤ 14)
include hx hb hp1 hp2 ha1 ha2
theorem rtexts_con : Con Tryz.prog 8 [.d (Dm.ints l), .v (str s), ZI .u8 b, .v (.int .i64 p), .v (.int .u8 (c.toNat : Int))] (.one (.v (.bool true))) := by
 have ht1 := txtI_length a.num
 have ht2 := txtI_length (qd a)
 have htl : (txtQ a).length ≤ 600 := by unfold txtQ; split <;> first | omega | (rw [List.length_append, List.length_cons]; omega)
 have htp := txtQ_ne a (by omega)
 have l1 := encI_length a.num
 have l2 := encI_length (qd a)
 have hel : 2 ≤ (encR a).length ∧ (encR a).length ≤ 300 := by show 2 ≤ (encI a.num ++ encI (qd a)).length ∧ (encI a.num ++ encI (qd a)).length ≤ _; rw [List.length_append]; omega
 have hc255 := c.toNat_lt
 refine Con.of (n := 222) Tryz.func8 rfl rfl rfl rfl rfl fun cx hfr => ?_
 refine sr rfl ?_
 refine mr rfl rfl bd rfl ?_
 refine RV.done (sr rfl ?_)
 refine ml rfl rfl bd rfl ?_
 refine p1 (ok_call (NumberA_con hx) rfl rfl bd Tryz.func39 rfl rfl (.cons rfl Conv.any (.cons rfl Conv.any .nil)) rfl hfr rfl) ?_
 refine p2 (ok_alloc (i := 0) rfl rfl bd zero_rat rfl rfl rfl rfl) ?_
 refine p1 (ok_store rfl rfl rfl rfl rfl rfl rfl (ty_rat).2 rfl rfl rfl rfl) ?_
 refine RV.done (sr rfl ?_)
 refine p1 (ok_load rfl rfl bd rfl rfl rfl ty_rat) ?_
 refine p1 (ok_call (RTextQ_con a 14 (by decide) (by omega) (by omega)) rfl rfl bd Tryz.func67 rfl rfl (.cons rfl Conv.any .nil) rfl hfr rfl) ?_
 refine mr rfl rfl bd rfl ?_
 refine RV.done (sr rfl ?_)
 refine ml rfl rfl bd rfl ?_
 refine p1 (ok_call (RParseT_con a (by omega)) rfl rfl bd Tryz.func68 rfl rfl (.cons rfl Conv.any .nil) rfl hfr rfl) ?_
 refine ml rfl rfl bd rfl ?_
 refine p1 (ok_extract rfl rfl bd rfl rfl) ?_
 refine p1 (ok_extract rfl rfl bd rfl rfl) ?_
 refine p2 (ok_alloc (i := 1) rfl rfl bd zero_rat rfl rfl rfl rfl) ?_
 refine p1 (ok_store rfl rfl rfl rfl rfl rfl rfl (ty_rat).2 rfl rfl rfl rfl) ?_
 refine mr rfl rfl bd rfl ?_
 refine RV.done (sr rfl ?_)
 refine p1 (ok_load rfl rfl bd rfl rfl rfl ty_rat) ?_
 refine p1 (ok_callRowD (G := Dm.gen (lstG none (ziV .u8 (encR a)))) (REncode_con _ _ (by omega) (by omega) (by omega)) (ziV_vals _) (lstG_Lst none _) (lstG_Lst0 none _) rfl rfl bd Tryz.func69 rfl rfl (.cons rfl Conv.any .nil)) ?_
 refine mr rfl rfl bd rfl ?_
 refine RV.done (sr rfl ?_)
 refine p2 (ok_litR (r := 48) (ss := []) (xs := []) (k := none) u_bytes zs_u8 rfl rfl rfl (by intro s hs; cases hs) (by intro s hs; cases hs) rfl rfl rfl bd trivial rfl rfl) ?_
 refine ml rfl rfl bd rfl ?_
 refine RV.step3 (OpOk.plain (ok_append (r := 48) (r' := 50) (k := none) (lst_elems (by decide) (ziV_ptrs _)) (by rw [ziV_length]; show (0 + _) * 1 ≤ _; omega) (by rw [ziV_length]; show 0 + _ ≤ _; omega) u_bytes inf_u8 rfl rfl rfl (ziV_plain _) rfl rfl rfl bd rfl rfl rfl rfl rfl rfl rfl rfl) rfl) ?_
 refine ml rfl rfl bd rfl ?_
 refine p1 (ok_call (Few_con b 40 (by decide)) rfl rfl bd Tryz.func14 rfl rfl (.cons rfl Conv.any (.cons rfl Conv.any .nil)) rfl hfr rfl) ?_
 refine RV.step3 (OpOk.plain (ok_appendD (r := 50) (r' := 53) (k := none) (G := Dm.gen (lstG none ([] ++ ziV .u8 (encR a) ++ ziV .u8 (b.take 40)))) (cx.bw hfr) (lst_elems (by decide) (ziV_ptrs _)) (lstG_Lst none _) (lstG_Lst0 none _) (by rw [List.nil_append, ziV_length, ziV_length, List.length_take]; omega) (by rw [List.nil_append, ziV_length, ziV_length, List.length_take]; omega) u_bytes inf_u8 rfl rfl rfl (ziV_plain _) (by rw [List.nil_append]; exact Nat.zero_add _) rfl rfl bd rfl rfl rfl rfl rfl rfl rfl rfl) rfl) ?_
 refine p1 (ok_call (RDecodeT_con a (b.take 40) (by omega) (by omega) (hb.take 40) (by rw [List.length_append, List.length_take]; omega)) rfl rfl bd Tryz.func70 rfl rfl (.cons rfl ⟨rfl, lst_eqv (by rw [List.nil_append, ziV_append])⟩ .nil) rfl hfr rfl) ?_
 refine ml rfl rfl bd rfl ?_
 refine p1 (ok_extract rfl rfl bd rfl rfl) ?_
 refine p1 (ok_extract rfl rfl bd rfl rfl) ?_
 refine p1 (ok_extract rfl rfl bd rfl rfl) ?_
 refine p2 (ok_alloc (i := 2) rfl rfl bd zero_rat rfl rfl rfl rfl) ?_
 refine p1 (ok_store rfl rfl rfl rfl rfl rfl rfl (ty_rat).2 rfl rfl rfl rfl) ?_
 refine mr rfl rfl bd rfl ?_
 refine mr rfl rfl bd rfl ?_
 refine RV.done ?_
 refine CV.seq ?_
 refine sr rfl ?_
 refine ml rfl rfl bd rfl ?_
 refine p1 (ok_load rfl rfl bd rfl rfl rfl ty_rat) ?_
 refine p1 (ok_call (rfTextQ_con a 14 (by decide) (by omega) (by omega)) rfl rfl bd Tryz.func71 rfl rfl (.cons rfl Conv.any .nil) rfl hfr rfl) ?_
 refine p1 (ok_neT (b := false) (by simp) rfl rfl bd rfl rfl) ?_
 refine ml rfl rfl bd rfl ?_
 refine RV.step1 (OpOk.yes (ok_move (.inl rfl) rfl bd rfl) rfl rfl rfl) ?_
 refine RV.step1 (OpOk.yes (ok_neqF rfl rfl rfl bd rfl rfl) rfl rfl rfl) ?_
 refine p1 (ok_pickF rfl rfl bd rfl rfl rfl) ?_
 refine ml rfl rfl bd rfl ?_
 refine RV.step1 (OpOk.yes (ok_load rfl rfl bd rfl rfl rfl ty_rat) rfl rfl rfl) ?_
 refine RV.step1 (OpOk.yes (ok_load rfl rfl bd rfl rfl rfl ty_rat) rfl rfl rfl) ?_
 refine RV.step1 (OpOk.yes (ok_call (same5G_con _ _ _ _) rfl rfl bd Tryz.func32 rfl rfl (.cons rfl Conv.any (.cons rfl Conv.any .nil)) rfl hfr rfl) rfl rfl rfl) ?_
 refine RV.step1 (OpOk.yes (ok_not rfl rfl bd rfl) rfl rfl rfl) ?_
 refine p1 (ok_pickF rfl rfl bd rfl rfl rfl) ?_
 refine ml rfl rfl bd rfl ?_
 refine RV.step1 (OpOk.yes (ok_move (.inl rfl) rfl bd rfl) rfl rfl rfl) ?_
 refine RV.step1 (OpOk.yes (ok_load rfl rfl bd rfl rfl rfl ty_rat) rfl rfl rfl) ?_
 refine RV.step1 (OpOk.yes (ok_callRowD (G := Dm.gen (lstG none (ziV .u8 (encR a)))) (rfEncode_con _ _ (by omega) (by omega) (by omega)) (ziV_vals _) (lstG_Lst none _) (lstG_Lst0 none _) rfl rfl bd Tryz.func72 rfl rfl (.cons rfl Conv.any .nil)) rfl rfl rfl) ?_
 refine RV.step1 (OpOk.yes (ok_call (SameBT_con _ (by omega)) rfl rfl bd Tryz.func17 rfl rfl (.cons rfl Conv.any (.cons rfl Conv.any .nil)) rfl hfr rfl) rfl rfl rfl) ?_
 refine RV.step1 (OpOk.yes (ok_not rfl rfl bd rfl) rfl rfl rfl) ?_
 refine p1 (ok_pickF rfl rfl bd rfl rfl rfl) ?_
 refine ml rfl rfl bd rfl ?_
 refine RV.step1 (OpOk.yes (ok_move (.inl rfl) rfl bd rfl) rfl rfl rfl) ?_
 refine RV.step1 (OpOk.yes (ok_neqF rfl rfl rfl bd rfl rfl) rfl rfl rfl) ?_
 refine p1 (ok_pickF rfl rfl bd rfl rfl rfl) ?_
 refine ml rfl rfl bd rfl ?_
 refine RV.step1 (OpOk.yes (ok_move (.inl rfl) rfl bd rfl) rfl rfl rfl) ?_
 refine RV.step1 (OpOk.yes (ok_move (.inl rfl) rfl bd rfl) rfl rfl rfl) ?_
 refine RV.step1 (OpOk.yes (ok_lenL (ziV_length _) u_bytes rfl rfl bd rfl) rfl rfl rfl) ?_
 refine RV.step1 (OpOk.yes (ok_neqF rfl rfl rfl bd rfl rfl) rfl rfl rfl) ?_
 refine p1 (ok_pickF rfl rfl bd rfl rfl rfl) ?_
 refine ml rfl rfl bd rfl ?_
 refine RV.step1 (OpOk.yes (ok_load rfl rfl bd rfl rfl rfl ty_rat) rfl rfl rfl) ?_
 refine RV.step1 (OpOk.yes (ok_load rfl rfl bd rfl rfl rfl ty_rat) rfl rfl rfl) ?_
 refine RV.step1 (OpOk.yes (ok_call (same5G_con _ _ _ _) rfl rfl bd Tryz.func32 rfl rfl (.cons rfl Conv.any (.cons rfl Conv.any .nil)) rfl hfr rfl) rfl rfl rfl) ?_
 refine RV.step1 (OpOk.yes (ok_not rfl rfl bd rfl) rfl rfl rfl) ?_
 refine p1 (ok_pickF rfl rfl bd rfl rfl rfl) ?_
 refine RV.done ?_
 refine CV.no rfl ?_
 refine CV.skip ?_
 refine sr rfl ?_
 refine ml rfl rfl bd rfl ?_
 refine p2 (ok_s2bR (r := 96) (by omega) u_str u_bytes u_u8 rfl rfl bd rfl rfl rfl) ?_
 refine mr rfl rfl bd rfl ?_
 refine RV.done (sr rfl ?_)
 refine ml rfl rfl bd rfl ?_
 refine ml rfl rfl bd rfl ?_
 refine ml rfl rfl bd rfl ?_
 refine p1 (ok_lenS u_bytes rfl rfl bd rfl) ?_
 refine p1 (ok_maxI (c := (((txtQ a).length : Nat) : Int)) (by split <;> omega) rfl rfl bd rfl rfl) ?_
 refine p1 (ok_call (AroundN_con p (txtQ a).length htp (by omega) hp1 hp2) rfl rfl bd Tryz.func19 rfl rfl (.cons rfl Conv.any (.cons rfl Conv.any .nil)) rfl hfr rfl) ?_
 refine ml rfl rfl bd rfl ?_
 refine p1 (ok_idxR (i := aroundN p (txtQ a).length) (Nat.mod_lt _ htp) (by rw [byV_length]; exact Nat.le_refl _) u_bytes sz_u8 rfl rfl bd rfl rfl rfl) ?_
 refine p1 (ok_storeR (i := aroundN p (txtQ a).length) (by rw [byV_length]; exact Nat.mod_lt _ htp) rfl (by show 0 < 1; decide) rfl rfl rfl rfl rfl rfl sz_u8 (.inl rfl) rfl rfl) ?_
 refine RV.done ?_
 refine CV.seq ?_
 rw [byV_set]
 refine CV.region rfl (fun _ => by kernel_rfl) ?_
 refine ml rfl rfl bd rfl ?_
 refine p1 (ok_b2sR (u := (txtQ a).set (aroundN p (txtQ a).length) c) (r := 96) (by rw [List.length_set]) u_bytes u_u8 u_str rfl rfl bd rfl rfl) ?_
 refine ml rfl rfl bd rfl ?_
 refine p1 (ok_call (Short_con s 60 (by decide)) rfl rfl bd Tryz.func20 rfl rfl (.cons rfl Conv.any (.cons rfl Conv.any .nil)) rfl hfr rfl) ?_
 refine ml rfl rfl bd rfl ?_
 refine p1 (ok_catT (v := [47, 50]) (by show _ + 2 ≤ _; omega) rfl rfl bd rfl rfl) ?_
 refine ml rfl rfl bd rfl ?_
 refine p1 (ok_catT (u := [45]) (by show 1 + _ ≤ _; omega) rfl rfl bd rfl rfl) ?_
 refine ml rfl rfl bd rfl ?_
 refine p1 (ok_catT (v := [48]) (by show _ + 1 ≤ _; omega) rfl rfl bd rfl rfl) ?_
 refine ml rfl rfl bd rfl ?_
 refine p1 (ok_catT (v := [47]) (by show _ + 1 ≤ _; omega) rfl rfl bd rfl rfl) ?_
 refine ml rfl rfl bd rfl ?_
 refine p1 (ok_catT (u := [47]) (by show 1 + _ ≤ _; omega) rfl rfl bd rfl rfl) ?_
 refine ml rfl rfl bd rfl ?_
 refine p1 (ok_catT (u := [48, 47]) (by show 2 + _ ≤ _; omega) rfl rfl bd rfl rfl) ?_
 refine p1 (ok_litD (G := Dm.gen (lstG none (stV (txQ s p c a)))) (ss := stV (txQ s p c a)) (xs := [.tmp 106, .tmp 108, .tmp 110, .tmp 112, .tmp 114, .tmp 116, .tmp 118, .tmp 120, _, _]) (lstG_Lst _ _) u_strs zs_str rfl rfl rfl stV_kind rfl rfl rfl bd (.cons rfl Conv.any (.cons rfl Conv.any (.cons rfl Conv.any (.cons rfl Conv.any (.cons rfl Conv.any (.cons rfl Conv.any (.cons rfl Conv.any (.cons rfl Conv.any (.cons rfl Conv.any (.cons rfl Conv.any .nil))))))))))) ?_
 refine mr rfl rfl bd rfl ?_
 refine RV.drawn (by kernel_rfl) ?_
 refine CV.seq ?_
 refine sr rfl ?_
 refine mr rfl rfl bd rfl ?_
 refine RV.done ?_
 refine CV.block ?_
 refine CV.loop (X := {k : Nat // k ≤ 10}) (fun k => [(.s 21, .av (.one (.v (.int .i64 (k.1 : Int))))), (.s 20, .av (.one (.d (Dm.gen (lstG none (stV (txQ s p c a))))))), (.s 11, .av (.one (.ptr 0 0))), (.b 0, .blk 45 [(some 4, RT a 14)]), (.s 15, .av (.one (ZI .u8 (encR a)))), (.s 2, .av (.one (ZI .u8 b))), (.s 3, .av (.one (.v (.int .i64 p)))), (.s 4, .av (.one (.v (.int .u8 (c.toNat : Int)))))]) (fun k => 10 - k.1) ⟨0, Nat.zero_le _⟩ (Sub.mk ⟨XV.le_rfl _, XV.le_rfl _, XV.le_rfl _, XV.le_rfl _, XV.le_rfl _, XV.le_rfl _, XV.le_rfl _, XV.le_rfl _, trivial⟩ rfl rfl) (fun k => ?_)
 obtain ⟨k, hk⟩ := k
 simp only
 refine CV.seq ?_
 refine sr rfl ?_
 refine ml rfl rfl bd rfl ?_
 refine ml rfl rfl bd rfl ?_
 refine p1 (ok_lenL (m := 10) rfl u_strs rfl rfl bd rfl) ?_
 refine p1 (ok_lss rfl rfl bd rfl rfl) ?_
 refine RV.done ?_
 refine CV.cond rfl (fun h1 => ?_) (fun h1 => ?_)
 ·refine CV.skip ?_
  refine CV.seq ?_
  refine CV.block ?_
  refine sr rfl ?_
  refine ml rfl rfl bd rfl ?_
  refine ml rfl rfl bd rfl ?_
  refine p1 (ok_idxL (k := none) (i := k) (stV_at (by have : (k : Int) < 10 := (by simpa using h1); show k < 10; omega)) u_strs sz_str (by decide) rfl rfl bd rfl rfl) ?_
  refine p1 (ok_loadP ty_str (by decide) rfl rfl bd rfl) ?_
  refine p1 (ok_call (RParse_con _) rfl rfl bd Tryz.func68 rfl rfl (.cons rfl Conv.any .nil) rfl hfr rfl) ?_
  refine ml rfl rfl bd rfl ?_
  refine p1 (ok_extract rfl rfl bd rfl rfl) ?_
  refine p1 (ok_extract rfl rfl bd rfl rfl) ?_
  refine p2 (ok_alloc (i := 3) rfl rfl bd zero_rat rfl rfl rfl rfl) ?_
  refine p1 (ok_store rfl rfl rfl rfl rfl rfl rfl (ty_rat).2 rfl rfl rfl rfl) ?_
  refine mr rfl rfl bd rfl ?_
  refine RV.done (sr rfl ?_)
  refine ml rfl rfl bd rfl ?_
  refine ml rfl rfl bd rfl ?_
  refine p1 (ok_idxL (k := none) (i := k) (stV_at (by have : (k : Int) < 10 := (by simpa using h1); show k < 10; omega)) u_strs sz_str (by decide) rfl rfl bd rfl rfl) ?_
  refine p1 (ok_loadP ty_str (by decide) rfl rfl bd rfl) ?_
  refine p1 (ok_call (rfParse_con _) rfl rfl bd Tryz.func73 rfl rfl (.cons rfl Conv.any .nil) rfl hfr rfl) ?_
  refine ml rfl rfl bd rfl ?_
  refine p1 (ok_extract rfl rfl bd rfl rfl) ?_
  refine p1 (ok_extract rfl rfl bd rfl rfl) ?_
  refine p2 (ok_alloc (i := 4) rfl rfl bd zero_rat rfl rfl rfl rfl) ?_
  refine p1 (ok_store rfl rfl rfl rfl rfl rfl rfl (ty_rat).2 rfl rfl rfl rfl) ?_
  refine mr rfl rfl bd rfl ?_
  refine RV.done (sr rfl ?_)
  refine ml rfl rfl bd rfl ?_
  refine ml rfl rfl bd rfl ?_
  refine p1 (ok_neqF rfl rfl rfl bd rfl rfl) ?_
  refine ml rfl rfl bd rfl ?_
  refine RV.step1 (OpOk.yes (ok_load rfl rfl bd rfl rfl rfl ty_rat) rfl rfl rfl) ?_
  refine RV.step1 (OpOk.yes (ok_load rfl rfl bd rfl rfl rfl ty_rat) rfl rfl rfl) ?_
  refine RV.step1 (OpOk.yes (ok_call (same5G_con _ _ _ _) rfl rfl bd Tryz.func32 rfl rfl (.cons rfl Conv.any (.cons rfl Conv.any .nil)) rfl hfr rfl) rfl rfl rfl) ?_
  refine RV.step1 (OpOk.yes (ok_not rfl rfl bd rfl) rfl rfl rfl) ?_
  refine p1 (ok_pickF rfl rfl bd rfl rfl rfl) ?_
  refine RV.done ?_
  refine CV.no rfl ?_
  refine CV.skip ?_
  refine CV.region rfl (fun h => nomatch h) ?_
  refine ml rfl rfl bd rfl ?_
  refine p1 (ok_add (c := ((k + 1 : Nat) : Int)) (by rw [wrapI (by omega) (by omega)]; omega) rfl rfl bd rfl rfl) ?_
  refine mr rfl rfl bd rfl ?_
  refine RV.done ?_
  have hlt : k < 10 := (by have : (k : Int) < 10 := (by simpa using h1); omega)
  exact ⟨⟨k + 1, hlt⟩, Sub.mk ⟨XV.le_rfl _, XV.le_rfl _, XV.le_rfl _, XV.le_rfl _, XV.le_rfl _, XV.le_rfl _, XV.le_rfl _, XV.le_rfl _, trivial⟩ rfl rfl, by show 10 - (k + 1) < 10 - k; omega⟩
 ·refine CV.exit ?_
  refine sr rfl ?_
  refine p2 (ok_litR (r := 153) (ss := []) (xs := []) (k := none) u_bytes zs_u8 rfl rfl rfl (by intro s hs; cases hs) (by intro s hs; cases hs) rfl rfl rfl bd trivial rfl rfl) ?_
  refine ml rfl rfl bd rfl ?_
  refine RV.step3 (OpOk.plain (ok_append (r := 153) (r' := 155) (k := none) (lst_elems (by decide) (ziV_ptrs _)) (by rw [ziV_length]; show (0 + _) * 1 ≤ _; omega) (by rw [ziV_length]; show 0 + _ ≤ _; omega) u_bytes inf_u8 rfl rfl rfl (ziV_plain _) rfl rfl rfl bd rfl rfl rfl rfl rfl rfl rfl rfl) rfl) ?_
  refine mr rfl rfl bd rfl ?_
  refine RV.done ?_
  refine CV.seq ?_
  rw [List.nil_append, ziV_length, show ([] : List (SA Dm)).length + (encR a).length = (encR a).length from Nat.zero_add _]
  refine CV.region rfl (fun h => nomatch h) ?_
  refine ml rfl rfl bd rfl ?_
  refine ml rfl rfl bd rfl ?_
  refine ml rfl rfl bd rfl ?_
  refine p1 (ok_lenS u_bytes rfl rfl bd rfl) ?_
  refine p1 (ok_maxI (c := (((encR a).length : Nat) : Int)) (by split <;> omega) rfl rfl bd rfl rfl) ?_
  refine p1 (ok_call (AroundN_con p (encR a).length (by omega) (by omega) hp1 hp2) rfl rfl bd Tryz.func19 rfl rfl (.cons rfl Conv.any (.cons rfl Conv.any .nil)) rfl hfr rfl) ?_
  refine ml rfl rfl bd rfl ?_
  refine p1 (ok_idxR (i := aroundN p (encR a).length) (Nat.mod_lt _ (by omega)) (by rw [ziV_length]; exact Nat.le_refl _) u_bytes sz_u8 rfl rfl bd rfl rfl rfl) ?_
  refine p1 (ok_storeR (i := aroundN p (encR a).length) (by rw [ziV_length]; exact Nat.mod_lt _ (by omega)) rfl (by show 0 < 1; decide) rfl rfl rfl rfl rfl rfl sz_u8 (.inl rfl) rfl rfl) ?_
  refine RV.done ?_
  refine CV.seq ?_
  rw [ziV_set]
  refine CV.freeze (r := 155) (t := 26) (G := Dm.gen (lstG none (ziV .u8 ((encR a).set (aroundN p (encR a).length) (c.toNat : Int))))) (cx.bw hfr) rfl rfl (by rw [ziV_length, List.length_set]) rfl rfl (lstG_Lst none _) (lstG_Lst0 none _) ?_
  refine CV.region rfl (fun h => nomatch h) ?_
  refine p1 (ok_callF (rOfF_con 2 (by decide) (by decide) (by decide)) rfl rfl bd Tryz.func29 rfl rfl (.cons rfl Conv.any .nil) rfl) ?_
  refine RV.step3 (OpOk.plain (ok_callRow (r := 165) (rEncode_con 2 1 (by decide)) (ziV_vals _) rfl rfl bd Tryz.func18 rfl rfl (.cons rfl Conv.any .nil) rfl rfl rfl) rfl) ?_
  refine p1 (ok_callF (rOfF_con 4 (by decide) (by decide) (by decide)) rfl rfl bd Tryz.func29 rfl rfl (.cons rfl Conv.any .nil) rfl) ?_
  refine p1 (ok_callRowD (G := Dm.gen (lstG none (ziV .u8 (encI 4)))) (rEncode_con 4 1 (by decide)) (ziV_vals _) (lstG_Lst none _) (lstG_Lst0 none _) rfl rfl bd Tryz.func18 rfl rfl (.cons rfl Conv.any .nil)) ?_
  refine RV.step4 (OpOk.plain (ok_appendND (r := 165) (r' := 168) (k := none) (G := Dm.gen (lstG none (ziV .u8 (encI 2) ++ ziV .u8 (encI 4)))) [] (cx.bw hfr) (lst_elems (by decide) (ziV_ptrs _)) (lstG_Lst none _) (lstG_Lst0 none _) (by rw [ziV_length, ziV_length]; decide) (by rw [ziV_length, ziV_length]; decide) u_bytes inf_u8 rfl rfl rfl rfl rfl bd rfl rfl rfl rfl rfl rfl rfl rfl) rfl) ?_
  refine mr rfl rfl bd rfl ?_
  refine RV.done ?_
  refine CV.seq ?_
  refine CV.region rfl (fun _ => by kernel_rfl) ?_
  refine ml rfl rfl bd rfl ?_
  refine ml rfl rfl bd rfl ?_
  refine p1 (ok_call (Few_con b 60 (by decide)) rfl rfl bd Tryz.func14 rfl rfl (.cons rfl Conv.any (.cons rfl Conv.any .nil)) rfl hfr rfl) ?_
  refine ml rfl rfl bd rfl ?_
  refine ml rfl rfl bd rfl ?_
  refine p1 (ok_lenL (ziV_length _) u_bytes rfl rfl bd rfl) ?_
  refine p1 (ok_sub (c := (((encR a).length - 1 : Nat) : Int)) (by rw [wrapI (by omega) (by omega)]; omega) rfl rfl bd rfl rfl) ?_
  refine p1 (ok_maxI (c := (((encR a).length - 1 : Nat) : Int)) (by split <;> omega) rfl rfl bd rfl rfl) ?_
  refine p1 (ok_cutL (k := none) (l' := ziV .u8 ((encR a).take ((encR a).length - 1))) none (some ((encR a).length - 1)) none (by show ((ziV .u8 (encR a)).take ((encR a).length - 1)).drop 0 = _; rw [List.drop_zero, ziV_take]) (by decide) (Nat.zero_le _) (by show (encR a).length - 1 ≤ (ziV .u8 (encR a)).length; rw [ziV_length]; omega) (Nat.le_refl _) (fun h => nomatch h) u_bytes sz_u8 rfl rfl bd rfl trivial rfl trivial) ?_
  refine ml rfl rfl bd rfl ?_
  refine p1 (ok_fieldAddr fa_rat0 rfl rfl bd rfl) ?_
  refine p1 (ok_loadf 0 fld_num rfl rfl bd rfl rfl rfl rfl ty_int) ?_
  refine p1 (ok_callRowD (G := Dm.gen (lstG none (ziV .u8 (encI a.num)))) (rEncode_con _ _ (by omega)) (ziV_vals _) (lstG_Lst none _) (lstG_Lst0 none _) rfl rfl bd Tryz.func18 rfl rfl (.cons rfl Conv.any .nil)) ?_
  refine p1 (ok_litD (G := Dm.gen (lstG none (zbV (cdQ b p c a)))) (ss := zbV (cdQ b p c a)) (xs := [.tmp 169, .tmp 171, .tmp 177, .tmp 178, .tmp 181]) (lstG_Lst _ _) u_lbytes zs_bytes rfl rfl rfl zbV_kind rfl rfl rfl bd (.cons rfl Conv.any (.cons rfl Conv.any (.cons rfl Conv.any (.cons rfl ⟨rfl, lst_eqv (by rw [ziV_append])⟩ (.cons rfl Conv.any .nil)))))) ?_
  refine mr rfl rfl bd rfl ?_
  refine RV.drawn (by kernel_rfl) ?_
  refine CV.seq ?_
  refine sr rfl ?_
  refine mr rfl rfl bd rfl ?_
  refine RV.done ?_
  refine CV.block ?_
  refine CV.loop (X := {k : Nat // k ≤ 5}) (fun k => [(.s 29, .av (.one (.v (.int .i64 (k.1 : Int))))), (.s 28, .av (.one (.d (Dm.gen (lstG none (zbV (cdQ b p c a))))))), (KP, .np [])]) (fun k => 5 - k.1) ⟨0, Nat.zero_le _⟩ (Sub.mk ⟨XV.le_rfl _, XV.le_rfl _, trivial, trivial⟩ rfl rfl) (fun k => ?_)
  obtain ⟨k, hk⟩ := k
  simp only
  refine CV.seq ?_
  refine sr rfl ?_
  refine ml rfl rfl bd rfl ?_
  refine ml rfl rfl bd rfl ?_
  refine p1 (ok_lenL (m := 5) rfl u_lbytes rfl rfl bd rfl) ?_
  refine p1 (ok_lss rfl rfl bd rfl rfl) ?_
  refine RV.done ?_
  refine CV.cond rfl (fun h2 => ?_) (fun h2 => ?_)
  ·refine CV.skip ?_
   refine CV.seq ?_
   refine CV.block ?_
   refine sr rfl ?_
   refine ml rfl rfl bd rfl ?_
   refine ml rfl rfl bd rfl ?_
   refine p1 (ok_idxL (k := none) (i := k) (zbV_at (by have : (k : Int) < 5 := (by simpa using h2); show k < 5; omega)) u_lbytes sz_bytes (by decide) rfl rfl bd rfl rfl) ?_
   refine p1 (ok_loadP ty_bytes (by decide) rfl rfl bd rfl) ?_
   refine p1 (ok_call (RDecode_con _ (cdQ_ok hb p c ha1 ha2 (k := k) (by have : (k : Int) < 5 := (by simpa using h2); omega)).1 (cdQ_ok hb p c ha1 ha2 (k := k) (by have : (k : Int) < 5 := (by simpa using h2); omega)).2) rfl rfl bd Tryz.func70 rfl rfl (.cons rfl Conv.any .nil) rfl hfr rfl) ?_
   refine ml rfl rfl bd rfl ?_
   refine p1 (ok_extract rfl rfl bd rfl rfl) ?_
   refine p1 (ok_extract rfl rfl bd rfl rfl) ?_
   refine p1 (ok_extract rfl rfl bd rfl rfl) ?_
   refine p2 (ok_alloc (i := 3) rfl rfl bd zero_rat rfl rfl rfl rfl) ?_
   refine p1 (ok_store rfl rfl rfl rfl rfl rfl rfl (ty_rat).2 rfl rfl rfl rfl) ?_
   refine mr rfl rfl bd rfl ?_
   refine mr rfl rfl bd rfl ?_
   refine RV.done (sr rfl ?_)
   refine ml rfl rfl bd rfl ?_
   refine ml rfl rfl bd rfl ?_
   refine p1 (ok_idxL (k := none) (i := k) (zbV_at (by have : (k : Int) < 5 := (by simpa using h2); show k < 5; omega)) u_lbytes sz_bytes (by decide) rfl rfl bd rfl rfl) ?_
   refine p1 (ok_loadP ty_bytes (by decide) rfl rfl bd rfl) ?_
   refine p1 (ok_call (rfDecode_con _ (cdQ_ok hb p c ha1 ha2 (k := k) (by have : (k : Int) < 5 := (by simpa using h2); omega)).1 (cdQ_ok hb p c ha1 ha2 (k := k) (by have : (k : Int) < 5 := (by simpa using h2); omega)).2) rfl rfl bd Tryz.func74 rfl rfl (.cons rfl Conv.any .nil) rfl hfr rfl) ?_
   refine ml rfl rfl bd rfl ?_
   refine p1 (ok_extract rfl rfl bd rfl rfl) ?_
   refine p1 (ok_extract rfl rfl bd rfl rfl) ?_
   refine p1 (ok_extract rfl rfl bd rfl rfl) ?_
   refine p2 (ok_alloc (i := 4) rfl rfl bd zero_rat rfl rfl rfl rfl) ?_
   refine p1 (ok_store rfl rfl rfl rfl rfl rfl rfl (ty_rat).2 rfl rfl rfl rfl) ?_
   refine mr rfl rfl bd rfl ?_
   refine mr rfl rfl bd rfl ?_
   refine RV.done (sr rfl ?_)
   refine ml rfl rfl bd rfl ?_
   refine ml rfl rfl bd rfl ?_
   refine p1 (ok_neqF rfl rfl rfl bd rfl rfl) ?_
   refine ml rfl rfl bd rfl ?_
   refine RV.step1 (OpOk.yes (ok_move (.inl rfl) rfl bd rfl) rfl rfl rfl) ?_
   refine RV.step1 (OpOk.yes (ok_move (.inl rfl) rfl bd rfl) rfl rfl rfl) ?_
   refine RV.step1 (OpOk.yes (ok_neqF rfl rfl rfl bd rfl rfl) rfl rfl rfl) ?_
   refine p1 (ok_pickF rfl rfl bd rfl rfl rfl) ?_
   refine ml rfl rfl bd rfl ?_
   refine RV.step1 (OpOk.yes (ok_load rfl rfl bd rfl rfl rfl ty_rat) rfl rfl rfl) ?_
   refine RV.step1 (OpOk.yes (ok_load rfl rfl bd rfl rfl rfl ty_rat) rfl rfl rfl) ?_
   refine RV.step1 (OpOk.yes (ok_call (same5G_con _ _ _ _) rfl rfl bd Tryz.func32 rfl rfl (.cons rfl Conv.any (.cons rfl Conv.any .nil)) rfl hfr rfl) rfl rfl rfl) ?_
   refine RV.step1 (OpOk.yes (ok_not rfl rfl bd rfl) rfl rfl rfl) ?_
   refine p1 (ok_pickF rfl rfl bd rfl rfl rfl) ?_
   refine RV.done ?_
   refine CV.no rfl ?_
   refine CV.skip ?_
   refine CV.region rfl (fun h => nomatch h) ?_
   refine ml rfl rfl bd rfl ?_
   refine p1 (ok_add (c := ((k + 1 : Nat) : Int)) (by rw [wrapI (by omega) (by omega)]; omega) rfl rfl bd rfl rfl) ?_
   refine mr rfl rfl bd rfl ?_
   refine RV.done ?_
   have hlt : k < 5 := (by have : (k : Int) < 5 := (by simpa using h2); omega)
   exact ⟨⟨k + 1, hlt⟩, Sub.mk ⟨XV.le_rfl _, XV.le_rfl _, trivial, trivial⟩ rfl rfl, by show 5 - (k + 1) < 5 - k; omega⟩
  ·refine CV.exit ?_
   refine sr rfl ?_
   refine p1 (ok_call (lives5_con) rfl rfl bd Tryz.func38 rfl rfl .nil rfl hfr rfl) ?_
   refine mr rfl rfl bd rfl ?_
   refine RV.done ?_
   refine CV.ret ?_
   exact fin1 rfl (.inr rfl) rfl is_rfl
end
theorem len_divInt {p q : Int} {k : Nat} (hp : len p ≤ k) (hq : len q ≤ k) : len (Rat.divInt p q).num ≤ k ∧ len (qd (Rat.divInt p q)) ≤ k := by
 have h0 : len 0 ≤ k := by show (dig 0).length ≤ _; rw [dig_zero]; exact Nat.zero_le _
 by_cases hq0 : q = 0
 ·subst hq0
  obtain ⟨e1, e2⟩ := qd_of_zero p
  rw [e1, e2]
  exact ⟨h0, h0⟩
 ·obtain ⟨e1, e2⟩ := make_num p q hq0
  rw [e1, e2]
  have h1 := Int.natAbs_ediv_le_natAbs p (Int.gcd p q : Nat)
  have h2 := Int.natAbs_ediv_le_natAbs q (Int.gcd p q : Nat)
  refine ⟨Nat.le_trans (len_mono ?_) hp, ?_⟩
  ·rw [Int.natAbs_mul]
   refine Nat.le_trans (Nat.mul_le_mul_right _ (?_ : _ ≤ 1)) (by rw [Nat.one_mul]; exact h1)
   rw [Int.natAbs_sign]
   split <;> omega
  ·split
   ·exact h0
   ·exact Nat.le_trans (len_mono (by rw [Int.natAbs_natCast]; exact h2)) hq
theorem numRp_len (l : List Int) (i : Nat) : len (numRp l i).num ≤ 14 ∧ len (qd (numRp l i)) ≤ 14 := by
 have hs : ∀ z : Int, -1000000000 < z → z < 1000000000 → len z ≤ 14 := fun z h1 h2 => Nat.le_trans (len_small (k := 1) (by omega) (by omega)) (by decide)
 have a1 := atI_bd l (i + 1) 61 (by decide)
 have a2 := atI_bd l (i + 2) 9 (by decide)
 have a3 := atI_bd l (i + 1) 20001 (by decide)
 have a4 := atI_bd l (i + 2) 1000 (by decide)
 unfold numRp
 split
 ·exact len_divInt (Nat.le_trans (numI_len _ _) (by decide)) (Nat.le_trans (numI_len _ _) (by decide))
 ·split
  ·exact len_divInt (hs _ (by omega) (by omega)) (hs _ (by omega) (by omega))
  ·split
   ·exact len_divInt (hs _ (by omega) (by omega)) (hs _ (by omega) (by omega))
   ·exact len_divInt (hs _ (by omega) (by omega)) (hs _ (by omega) (by omega))
theorem rtexts_law (l : List Int) (s : List UInt8) (b : List Int) (p : Int) (c : UInt8) (hb : W.Bs b) (hp1 : -9223372036854775808 ≤ p) (hp2 : p ≤ 9223372036854775807) : Con Tryz.prog 8 [.d (Dm.ints l), .v (str s), ZI .u8 b, .v (.int .i64 p), .v (.int .u8 (c.toNat : Int))] (.one (.v (.bool true))) :=
 rtexts_con l s b p c _ rfl hb hp1 hp2 (numRp_len l 0).1 (numRp_len l 0).2
end Vc
end Go.Proofs.YtpgiebimhnhbiaaGreatDoor
