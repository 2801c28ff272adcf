/-
  Contract of gantry/integer: take.
-/
import Derived.Test.YtelfpefcjchjbaaGreatDoorIntZK
import Derived.Test.YtelfpefcjchjbaaGreatDoorIntE
namespace Go.Proofs.YtelfpefcjchjbaaGreatDoor
open Go.RowKit
open Go.Lib (hid)
open Dg
namespace Zn

/-- One block is another; all else is as it was. -/
structure Chg (g : Nat) (w w' : World) : Prop where
  below : Below g w w'
  above : ∀ k, g < k → k < w.heap.size → w'.heap[k]? = w.heap[k]?
theorem Chg.refl (g : Nat) (w : World) : Chg g w w := ⟨Below.refl _ _, fun _ _ _ => rfl⟩
theorem Chg.setCell {g : Nat} {w w' : World} (h : Chg g w w') (i : Nat) (v : Value) : Chg g w (w'.setCell ⟨g, i, none⟩ v) :=
  ⟨h.below.setCell (Nat.le_refl _) _, fun k hk hl => by rw [heap_setCell_other _ _ _ _ (by simp; omega)]; exact h.above k hk hl⟩
theorem Chg.trans {g : Nat} {a b c : World} (h : Chg g a b) (k : Chg g b c) : Chg g a c :=
  ⟨h.below.trans k.below, fun i hi hl => (k.above i hi (Nat.lt_of_lt_of_le hl h.below.size)).trans (h.above i hi hl)⟩
theorem Chg.of_below {g : Nat} {w w' : World} (h : Below w.heap.size w w') (hg : g ≤ w.heap.size) : Chg g w w' := ⟨h.mono hg, fun k _ hk => h.block k hk⟩

theorem tk_list (pre post : List Int) (done lo : List Nat) (k : Nat) (t : Int) (h : k < lo.length) :
    pre ++ (done ++ lo.drop k).map Int.ofNat ++ t :: post = (pre ++ done.map Int.ofNat) ++ ((lo.getD k 0 : Nat) : Int) :: ((lo.drop (k + 1)).map Int.ofNat ++ t :: post) := by
  have e : lo.getD k 0 = lo[k] := by simp [List.getD_eq_getElem?_getD, h]
  rw [List.drop_eq_getElem_cons h, e, List.map_append, List.map_cons]
  simp only [List.append_assoc, List.cons_append]
  rfl
theorem tk_list' (pre post : List Int) (done : List Nat) (e : Nat) (lo : List Nat) (t : Int) :
    (pre ++ done.map Int.ofNat) ++ (e : Int) :: (lo.map Int.ofNat ++ t :: post) = pre ++ ((done ++ [e]) ++ lo).map Int.ofNat ++ t :: post := by
  simp

/-- take's loop: k digits are taken from; C is what is carried. -/
def TkRel (g off : Nat) (pre : List Int) (lo : List Nat) (t : Int) (post : List Int) (b : List Nat) (q : Int) (w : World) (k : Nat) (C : Int) (wr : World) : Prop :=
  ∃ done, done.length = k ∧ Dig done ∧ RowI wr g (pre ++ (done ++ lo.drop k).map Int.ofNat ++ t :: post) ∧ Chg g w wr ∧
    (val done : Int) + 1000000000 ^ k * C = (val (lo.take k) : Int) - q * (val (b.take k) : Int) ∧ -1000000001 ≤ C ∧ C ≤ 1

theorem TkRel.cell {g off : Nat} {pre : List Int} {lo : List Nat} {t : Int} {post : List Int} {b : List Nat} {q : Int} {w : World} {k : Nat} {C : Int} {wr : World} (h : TkRel g off pre lo t post b q w k C wr) (hpre : pre.length = off) (hk : k < lo.length) (hdl : Dig lo) (hdb : Dig b) (hq1 : -1 ≤ q) (hq2 : q ≤ 1000000000) :
    ∃ z : Nat, z < 1000000000 ∧ wr.cell? ⟨g, off + k, none⟩ = some (.int .i64 (z : Int)) ∧ wr.frozen? ⟨g, off + k, none⟩ = false ∧ -1000000001 ≤ C ∧ C ≤ 1 ∧ Below g w wr ∧
      ∀ s : Int, s = (z : Int) - q * ((b.getD k 0 : Nat) : Int) + C → TkRel g off pre lo t post b q w (k + 1) (s / 1000000000) (wr.setCell ⟨g, off + k, none⟩ (.int .i64 (s % 1000000000))) := by
  obtain ⟨done, h1, h2, h3, h4, h5, h6, h7⟩ := h
  rw [tk_list _ _ _ _ _ _ hk] at h3
  have hA : (pre ++ done.map Int.ofNat).length = off + k := by simp [hpre, h1]
  refine ⟨lo.getD k 0, hdl.getD k, ?_, RowI.frozen h3 _, h6, h7, h4.below, fun s hs => ?_⟩
  · rw [h3.cell (by simp; omega), Dv.getD_mid _ _ _ _ hA]
  · obtain ⟨e, he⟩ : ∃ e : Nat, s % 1000000000 = (e : Int) := ⟨(s % 1000000000).toNat, by omega⟩
    obtain ⟨-, -, b1, b2⟩ := Dv.step_bd hq1 hq2 (hdb.getD k) (hdl.getD k) h6 h7 hs
    refine ⟨done ++ [e], by simp [h1], h2.append (Dig.cons (by omega) Dig.nil), ?_, h4.setCell _ _, Dv.take_step h1 h5 hs he, b1, b2⟩
    have h8 := h3.store (off + k) (s % 1000000000)
    rw [he, Dv.set_mid _ _ _ _ hA, tk_list'] at h8
    rw [he]
    exact h8

theorem TkRel.cellOut {g off : Nat} {pre : List Int} {lo : List Nat} {t : Int} {post : List Int} {b : List Nat} {q : Int} {w : World} {C : Int} {wr : World} (h : TkRel g off pre lo t post b q w lo.length C wr) (hpre : pre.length = off) :
    wr.cell? ⟨g, off + lo.length, none⟩ = some (.int .i64 t) ∧ wr.frozen? ⟨g, off + lo.length, none⟩ = false ∧ -1000000001 ≤ C ∧ C ≤ 1 := by
  obtain ⟨done, h1, h2, h3, h4, h5, h6, h7⟩ := h
  rw [List.drop_length, List.append_nil] at h3
  have hA : (pre ++ done.map Int.ofNat).length = off + lo.length := by simp [hpre, h1]
  exact ⟨by rw [h3.cell (by simp; omega), Dv.getD_mid _ _ _ _ hA], RowI.frozen h3 _, h6, h7⟩
/-- Behind take. -/
def RetTake (g : Nat) (pre : List Int) (lo : List Nat) (t : Int) (post : List Int) (b : List Nat) (q : Int) (w : World) (e : Ending) (w' : World) : Prop :=
  e = .returned (.tuple #[]) ∧ ∃ (lo' : List Nat) (c : Int), lo'.length = lo.length ∧ Dig lo' ∧ (val lo' : Int) + 1000000000 ^ lo.length * c = (val lo : Int) - q * (val b : Int) ∧ RowI w' g (pre ++ lo'.map Int.ofNat ++ (t + c) :: post) ∧ Chg g w w'
theorem TkRel.fin {g off : Nat} {pre : List Int} {lo : List Nat} {t : Int} {post : List Int} {b : List Nat} {q : Int} {w : World} {C : Int} {wr : World} (h : TkRel g off pre lo t post b q w lo.length C wr) (hpre : pre.length = off) (hb : b.length = lo.length) :
    RetTake g pre lo t post b q w (.returned (.tuple #[])) (wr.setCell ⟨g, off + lo.length, none⟩ (.int .i64 (t + C))) := by
  obtain ⟨done, h1, h2, h3, h4, h5, h6, h7⟩ := h
  rw [List.drop_length, List.append_nil] at h3
  have hA : (pre ++ done.map Int.ofNat).length = off + lo.length := by simp [hpre, h1]
  have h8 := h3.store (off + lo.length) (t + C)
  rw [Dv.set_mid _ _ _ _ hA] at h8
  rw [List.take_of_length_le (Nat.le_refl _), List.take_of_length_le (by omega)] at h5
  exact ⟨rfl, done, C, h1, h2, h5, h8, h4.setCell _ _⟩

set_option maxRecDepth 100000 in
set_option maxHeartbeats 2000000 in
theorem take_any (g off cap : Nat) (pre : List Int) (lo : List Nat) (t : Int) (post : List Int) (vb : Value) (b : List Nat) (q : Int) (w0 w : World) (hb : Nums w0 vb b) (hw : Below w0.heap.size w0 w) (hg : w0.heap.size ≤ g)
    (hrow : RowI w g (pre ++ lo.map Int.ofNat ++ t :: post)) (hpre : pre.length = off) (hlo : lo.length = b.length) (hdl : Dig lo) (hdb : Dig b) (hq1 : -1 ≤ q) (hq2 : q ≤ 1000000000) (ht1 : -1000000000 ≤ t) (ht2 : t ≤ 1000000000) (hcap : b.length + 1 ≤ cap) (hcm : cap ≤ maxLen) (hlb : b.length ≤ 1099511627776) :
    Calls Tryz.prog 104 #[.slice (some ⟨g, off, none⟩) (b.length + 1) cap, vb, .int .i64 q] w (RetTake g pre lo t post b q w) := by
  obtain ⟨bo, bc, rfl, b1, b2, b3⟩ := hb
  have HB := hid b3
  have HW := hid hw
  have HDL := hid hdl
  have HDB := hid hdb
  clear b3 hw hdl hdb
  unfold maxLen at b2 hcm
  have HC := hid (show TkRel g off pre lo t post b q w 0 0 w from ⟨[], rfl, Dig.nil, by simpa using hrow, Chg.refl _ _, by simp [val], by decide, by decide⟩)
  clear hrow
  go_enter Tryz.func104, Tryz.ntmps104
  go_wp2
  go_loopw [6, 11] (fun c i wr => ∃ (k : Nat) (C : Int), k ≤ b.length ∧ i = .int .i64 k ∧ c = .int .i64 C ∧ TkRel g off pre lo t post b q w k C wr) (fun _ i _ => b.length - (intOf i).toNat)
  case atStart => exact ⟨0, 0, by omega, rfl, rfl, HC.out⟩
  case round =>
    clear HC
    obtain ⟨k, C, hkb, rfl, rfl, hrel⟩ := hrel
    have HR := hid hrel
    clear hrel
    by_cases hk : k < b.length
    · obtain ⟨z, hz9, hcz, hfz, hC1, hC2, hbel, hnext⟩ := HR.out.cell hpre (by omega) HDL.out HDB.out hq1 hq2
      obtain ⟨bb, boff, rfl, hbc⟩ := HB.out (by omega)
      have hcb := keepCell (HW.out.trans (hbel.mono hg)) (hbc k hk)
      have hd9 := HDB.out.getD k
      obtain ⟨d, hd⟩ : ∃ d, d = b.getD k 0 := ⟨_, rfl⟩
      rw [← hd] at hcb hnext hd9
      obtain ⟨X, hX⟩ : ∃ X, X = q * (d : Int) := ⟨_, rfl⟩
      obtain ⟨x1, x2, -, -⟩ := Dv.step_bd hq1 hq2 hd9 hz9 hC1 hC2 rfl
      rw [← hX] at x1 x2 hnext
      have hXi : q * (d : Int) = X := hX.symm
      have HN := hid hnext
      clear hbc hbel hnext hX hd
      go_wp2_with (go_at_call 83; refine (carried_any _ _ (by omega) (by omega)).mono ?_; rintro e w' ⟨rfl, rfl⟩)
      have hT := HN.out _ rfl
      go_roundw
      case rel => exact ⟨k + 1, _, by omega, by go_num, rfl, hT⟩
      case measure => simp [intOf]; omega
    · obtain rfl : k = b.length := by omega
      rw [← hlo] at HR
      obtain ⟨hcz, hfz, hC1, hC2⟩ := HR.out.cellOut hpre
      have HF := hid (HR.out.fin hpre hlo.symm)
      rw [hlo] at hcz hfz HF
      go_wp2
      refine bodyPost_ret (v := .tuple #[]) (by simp [results, Tryz.results104, go_sem]) rfl ?_
      exact HF.out

end Zn
end Go.Proofs.YtelfpefcjchjbaaGreatDoor
