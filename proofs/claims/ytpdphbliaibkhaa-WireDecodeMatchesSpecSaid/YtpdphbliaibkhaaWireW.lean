/-
  Contracts of gantry/gantryref01: GetDigests.
-/
import Derived.Test.YtpdphbliaibkhaaWireJ
import Derived.Deep.OwnRows
namespace Go.Proofs.Ytpdphbliaibkhaa
open Go.RowKit
open Go.Lib (hid)
open W

theorem lits_at {n : Nat} {v : Value} (c : Array Value) (h : c = Array.replicate n v) (i : Nat) (hi : i < c.size) : c[i]? = some v := by
  subst h
  simp at hi
  simp [hi]
theorem zero_row (w : World) (Z : Array Value) (E : TypeId) (h : Z = Array.replicate 16 (.int .u8 0)) : (w.alloc (.cells Z E)).rowIs w.heap.size E 16 (fun _ => .int .u8 0) := by
  have hz : Z.size = 16 := by rw [h, Array.size_replicate]
  have := World.rowIs_alloc w Z E (fun _ => .int .u8 0) (lits_at _ h)
  rwa [hz] at this
theorem row_digest {c : Array Value} {bs : List Int} {p : Nat} (hs : c.size = 16) (hp : p + 16 ≤ bs.length) (h : ∀ i, i < 16 → c[i]? = some (if i < 16 then Value.int .u8 (bs.getD (p + i) 0) else .int .u8 0)) : c = (((bs.drop p).take 16).map (Value.int .u8)).toArray := by
  apply Array.ext_getElem?
  intro i
  by_cases hi : i < 16
  · rw [h i hi, if_pos hi, List.getElem?_toArray, List.getElem?_map, List.getElem?_take, if_pos hi, List.getElem?_drop, List.getD_eq_getElem?_getD, List.getElem?_eq_getElem (by omega)]
    rfl
  · rw [Array.getElem?_eq_none (by omega), Array.getElem?_eq_none (by simp; omega)]

set_option maxHeartbeats 1600000 in
theorem refGetDigests_any (v : Value) (bs : List Int) (w : World) (hv : ByteView w v bs) (hbl : bs.length ≤ 1099511627776) :
    Calls Try.prog 35 #[v] w (Listed w 57 16 (fun x => x.map (Value.int .u8)) (decList decDig 16 bs)) := by
  have hle := hv.le
  have HV := hid hv
  have HB := hid hv.bytes
  have HC := hid (refCount_any v bs 16 w hv (.inr rfl) (by omega))
  obtain ⟨_, ao, cap, rfl, hlc, hcm, hcells⟩ := hv
  unfold maxLen at hcm
  obtain ⟨L, hL⟩ : ∃ L, L = decList decDig 16 bs := ⟨_, rfl⟩
  rw [← hL]
  have HL := hid hL
  clear hL
  have hcast : ((16 : Nat) : Int) = 16 := rfl
  rw [hcast] at HC
  clear hcast
  obtain ⟨i0, hi, hz0, hz1, hz2⟩ := info_parts Try.info57'
  have HZ := hid hz0
  clear hz0
  rcases lenOf_cases bs 16 (by omega) HB.out with ⟨n, u, h, _, h1, h2, h3⟩ | h | h
  · replace HL := hid (HL.out.trans (decList_ok h))
    rw [h] at HC
    clear h
    obtain ⟨b, off, rfl, hcell⟩ := hcells (by rintro rfl; simp at h2; omega)
    have HCE := hid hcell
    clear hcell hcells
    go_enter Try.func35, Try.ntmps35
    go_wp2_with fail
    refine HC.out.mono ?_
    rintro e w1 ⟨rfl, hb⟩
    have HB1 := hid hb
    clear hb
    go_wp2
    go_loopw [6, 8, 9] (fun at_ out i wr => ∃ (k : Nat) (l : List (List Int)) (p : Nat), k ≤ n ∧ i = .int .i64 k ∧ at_ = .int .i64 p ∧ p = u + 16 * k ∧ (steps decDig bs u k).1 = l ∧ l.length = k ∧ wr.ownsRow w.heap.size 57 16 out k (l.flatMap fun x => x.map (Value.int .u8)) ∧ Below w.heap.size w wr) (fun _ _ i _ => n - (intOf i).toNat)
    case atStart => exact ⟨0, [], u, by omega, rfl, rfl, rfl, rfl, rfl, World.ownsRow_nil _ _ _ _, HB1.out⟩
    case round =>
      obtain ⟨k, l, p, hk, rfl, rfl, hp, hst, hlen, hown, hbel⟩ := hrel
      have HO := hid hown
      have HBl := hid hbel
      have HST := hid hst
      have HLN := hid hlen
      have hpl : k < n → p + 16 ≤ bs.length := fun _ => by omega
      have HP := hid hp
      have hsz := hbel.size
      clear hown hbel hst hlen hp
      by_cases hkn : k < n
      · have hroom := hpl hkn
        clear hpl
        obtain ⟨wo, rfl⟩ : ∃ wo : World, wo = wr := ⟨_, rfl⟩
        go_wp2
        go_loopw [11] (fun i wr => ∃ j : Nat, j ≤ 16 ∧ i = .int .i64 j ∧ wr.rowIs wo.heap.size 57 16 (fun q => if q < j then .int .u8 (bs.getD (p + q) 0) else .int .u8 0) ∧ Below wo.heap.size wo wr) (fun i _ => 16 - (intOf i).toNat)
        case atStart => exact ⟨0, by omega, rfl, by simpa using zero_row wo _ _ (by kernel_rfl), (Below.refl _ _).alloc (Nat.le_refl _) _⟩
        case round =>
          obtain ⟨j, hj, rfl, hrow, hbel⟩ := hrel
          by_cases hj16 : j < 16
          · have hd := hrow.cell (i := j) hj16
            rw [if_neg (by omega)] at hd
            have hf := hrow.frozen j
            obtain ⟨y, hy⟩ : ∃ y, y = bs.getD (p + j) 0 := ⟨_, rfl⟩
            have hcz : wr.cell? ⟨b, off + (p + j), none⟩ = some (.int .u8 y) := by
              rw [hy]
              exact below_keep (further HBl.out hbel) (HCE.out (p + j) (by omega))
            have HR := hid hrow
            have HB2 := hid hbel
            have HY := hid hy
            clear hrow hbel hy
            go_wp2
            go_roundw
            case rel =>
              refine ⟨j + 1, by omega, by go_num, (HR.out.set j _).congr fun q _ => ?_, HB2.out.setCell (by simp) _⟩
              by_cases e : q = j
              · rw [if_pos e, if_pos (by omega), e, HY.out]
              · rw [if_neg e]
                by_cases e2 : q < j
                · rw [if_pos e2, if_pos (by omega)]
                · rw [if_neg e2, if_neg (by omega)]
            case measure => simp [intOf]; omega
          · obtain rfl : j = 16 := by omega
            obtain ⟨c, hc1, hc2, hc3⟩ := hrow
            obtain ⟨cs, hcs⟩ : ∃ cs, cs = ((bs.drop p).take 16).map (Value.int .u8) := ⟨_, rfl⟩
            have hcc : c = cs.toArray := by rw [hcs]; exact row_digest hc2 hroom hc3
            have hc16 : cs.length = 16 := by rw [hcs]; simp; omega
            have h1c : ∀ v ∈ cs, v.oneCell' = true := by rw [hcs]; exact bytes_oneCell _
            rw [hcc] at hc1
            have HC1 := hid hc1
            have HIN := hid (show (Try.prog.info? 57).map (·.size) = some cs.toArray.size by rw [List.size_toArray, hc16]; exact Try.info57)
            have hst : ∀ W : World, (storeCells ⟨W.heap.size, 0, none⟩ cs).run Try.prog (W.alloc (.cells #[.int .u8 0, .int .u8 0, .int .u8 0, .int .u8 0, .int .u8 0, .int .u8 0, .int .u8 0, .int .u8 0, .int .u8 0, .int .u8 0, .int .u8 0, .int .u8 0, .int .u8 0, .int .u8 0, .int .u8 0, .int .u8 0] 57)) = .ok () (W.alloc (.cells cs.toArray 57)) := fun W => by
              have := run_storeCells_new (P := Try.prog) W 57 #[.int .u8 0, .int .u8 0, .int .u8 0, .int .u8 0, .int .u8 0, .int .u8 0, .int .u8 0, .int .u8 0, .int .u8 0, .int .u8 0, .int .u8 0, .int .u8 0, .int .u8 0, .int .u8 0, .int .u8 0, .int .u8 0] cs.toArray (by simpa [hc16] using Try.info57) (by simp [hc16]) (all_oneCell_toArray h1c)
              simpa using this
            have HO2 := hid (owned_kept HO.out hbel)
            have HB2 := hid (further HBl.out hbel)
            have hsz2 := Nat.le_trans hsz hbel.size
            have HCS := hid hcs
            have H16 := hid hc16
            have H1 := hid h1c
            clear hcs h1c hc1 hc2 hc3 hcc hbel
            go_wp2_with (first | (with_reducible refine wpList_load_row rfl 57 (.tmp 10) rfl wo.heap.size rfl 57 cs.toArray (0, 0) _ HC1.out Try.under57 rfl HIN.out ?_) | (at_builtin; go_must (refine wpList_append_own _ rfl (.tmp 38) (.tmp 40) 24 rfl w.heap.size 57 i0 (.agg #[.int .u8 0, .int .u8 0, .int .u8 0, .int .u8 0, .int .u8 0, .int .u8 0, .int .u8 0, .int .u8 0, .int .u8 0, .int .u8 0, .int .u8 0, .int .u8 0, .int .u8 0, .int .u8 0, .int .u8 0, .int .u8 0]) 16 16 Try.under24 hi HZ.out hz1 hz2 rfl (by decide) _ k (l.flatMap fun x => x.map (Value.int .u8)) rfl (HO2.out.alloc _) ⟨wr.heap.size, 0, none⟩ 1 1 cs rfl (by rw [H16.out]) ?c1 ?c2 ?c3 ?c4 ?c5 ?_)))
            case c1 => rw [fold_cells cs _ (by rw [H16.out]; rfl)]; exact news_new _ _ _ _ rfl
            case c2 => exact H1.out
            case c3 => unfold maxLen; omega
            case c4 => omega
            case c5 => simp; omega
            intro v' w6 hown' hgrow _
            have HO6 := hid hown'
            have HB6 := hid (below_owned (HB2.out.alloc HB2.out.size _) (HO2.out.alloc _) hgrow)
            clear hown' hgrow
            go_wp2
            go_roundw
            case rel => exact ⟨k + 1, l ++ [(bs.drop p).take 16], p + 16, by omega, by go_num, by go_num, by have := HP.out; omega, by rw [HP.out]; exact steps_dig_list bs u k l HST.out, by simp [HLN.out], by simpa [HCS.out] using HO6.out, HB6.out⟩
            case measure => simp [intOf]; omega
      · obtain rfl : k = n := by omega
        have hsd := steps_dig bs u k
        have HR := hid (HL.out.trans (show _ = (l, p, 0) by
          have : steps decDig bs u k = (l, p, 0) := Prod.ext HST.out (by rw [hsd, HP.out])
          rw [this]; simp))
        clear hsd hpl
        go_wp2
        go_ret3
        rw [HR.out]
        refine ⟨HBl.out, _, rfl, ?_⟩
        rw [HLN.out]
        exact HO.out
  all_goals
    replace HL := hid (HL.out.trans (decList_err h (by omega)))
    rw [h] at HC
    clear h hcells
    go_enter Try.func35, Try.ntmps35
    go_wp2_with fail
    refine HC.out.mono ?_
    rintro e w1 ⟨rfl, hb⟩
    have HB1 := hid hb
    clear hb
    go_wp2
    go_ret3
    rw [HL.out]
    exact Listed.nil HB1.out

end Go.Proofs.Ytpdphbliaibkhaa
