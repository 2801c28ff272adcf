/-
  Contracts of gantry/gantryref02: Short, Of.
-/
import Derived.Test.YtihljbephlpgcaaDoorHashRK
namespace Go.Proofs.YtihljbephlpgcaaDoor
open Go.RowKit
open Go.Lib (hid)
open S

/-- While the digest's bytes are copied. -/
def ShRow (w : World) (gh go : Nat) (M : List Nat) (i : Nat) (wr : World) : Prop :=
  Below w.heap.size w wr ∧ Res16 w wr ∧ wr.heap[gh]? = some (.cells (bytesV M) 24 (0, 0)) ∧ wr.rowIs go 44 16 (fun p => if p < i then .int .u8 (M.getD p 0 : Nat) else .int .u8 0)

theorem take16 {M : List Nat} (hM : M.length = 32) {c : Array Value} (h2 : c.size = 16) (h3 : ∀ i, i < 16 → c[i]? = some (if i < 16 then .int .u8 (M.getD i 0 : Nat) else .int .u8 0)) : c = bytesV (M.take 16) := by
  have hl : (M.take 16).length = 16 := by simp; omega
  refine bytes_of (h2.trans hl.symm) fun i hi => ?_
  rw [hl] at hi
  rw [h3 i hi, if_pos hi]
  simp [List.getD_eq_getElem?_getD, hi]

set_option maxRecDepth 100000 in
set_option maxHeartbeats 1600000 in
theorem Short_any (g c : Nat) (M : List Nat) (w : World) (hM : M.length ≤ 1000000) (hB : Bn M) (hL : Lie w g 0 M) (hC : KC w) :
    Calls Tryd.prog 35 #[.slice (some ⟨g, 0, none⟩) M.length c] w fun e w' => e = .returned (.agg (bytesV ((sha M).take 16))) ∧ Below w.heap.size w w' := by
  have HS := hid fun W hW => refSum_any g 0 c M W hM hB (hL.below hW) (hC.below hW)
  obtain ⟨S1, hS1⟩ : ∃ S1, S1 = sha M := ⟨_, rfl⟩
  have HSl := hid (show S1.length = 32 by rw [hS1]; exact sha_length _)
  have HSb := hid (show Bn S1 by rw [hS1]; exact sha_bn _)
  obtain ⟨ml, hml⟩ : ∃ ml, ml = M.length := ⟨_, rfl⟩
  rw [← hS1, ← hml] at HS
  rw [← hS1, ← hml]
  clear hS1 hM hB hL hC hml
  obtain ⟨L, hLL⟩ : ∃ L, L = bytesV S1 := ⟨_, rfl⟩
  have HL := hid hLL
  have HL32 := hid (show L.size = 32 by rw [hLL, bytesV_size]; exact HSl.out)
  rw [← hLL] at HS
  clear hLL
  go_enter Tryd.func35, Tryd.ntmps35
  go_wp2_with fail
  have hW0 : Below w.heap.size w (w.alloc (.cells (Array.replicate 16 (.int .u8 0)) 44)) := (Below.refl _ _).alloc (Nat.le_refl _) _
  have hR0 : Res16 w (w.alloc (.cells (Array.replicate 16 (.int .u8 0)) 44)) := ⟨Array.replicate 16 (.int .u8 0), heap_alloc_new w _, Array.size_replicate⟩
  refine (HS.out _ hW0).mono ?_
  rintro e w3 ⟨rfl, hb3⟩
  have HB3 := hid (further hW0 hb3)
  have HR3 := hid (hR0.keep hb3)
  clear hb3 hW0 hR0 HS
  go_wp2_with (with_reducible refine wpList_store_at rfl 24 (.tmp 3) (.tmp 7) rfl w3.heap.size 0 L rfl rfl _ 24 (heap_alloc_new w3 _) ?s1 ?s2 ?s3 ?_)
  case s1 => rw [HL32.out]; exact Tryd.size_h32
  case s2 => rw [HL32.out]; exact Nat.le_refl _
  case s3 => rw [HL.out]; exact bytesV_one _
  intro w4 F1 F2 F3 F4
  have hbw := below_same ((Below.refl w3.heap.size w3).alloc (Nat.le_refl _) (.cells (Array.replicate 32 (.int .u8 0)) 24)) (Nat.le_refl _) F2.out (F3.out.trans (by simp)) F4.out
  have HG4 := hid (show w4.heap[w3.heap.size]? = some (.cells (bytesV S1) 24 (0, 0)) by
    rw [F1.out, splice_all64 (by show 32 = L.toList.length; rw [Array.length_toList, HL32.out]), ← HL.out])
  have HB4 := hid (further HB3.out hbw)
  have HR4 := hid (HR3.out.keep hbw)
  have hgh := lt_of_heap HG4.out
  have hw3 := HB3.out.size
  have hw33 : w.heap.size < w3.heap.size := by obtain ⟨Z, z1, _⟩ := HR3.out; exact lt_of_heap z1
  clear F1 F2 F3 F4 hbw HB3 HR3
  go_wp2_with fail
  go_loopw [5] (fun i wr => ∃ k : Nat, k ≤ 16 ∧ i = .int .i64 k ∧ ShRow w w3.heap.size w4.heap.size S1 k wr) (fun i _ => 16 - (intOf i).toNat)
  case atStart =>
    refine ⟨0, by omega, rfl, HB4.out.alloc HB4.out.size _, ?_, ?_, ?_⟩
    · exact HR4.out.keep ((Below.refl _ _).alloc (Nat.le_refl _) _)
    · exact stays ((Below.refl _ _).alloc (Nat.le_refl _) _) HG4.out
    · have hr := World.rowIs_alloc w4 (Array.replicate 16 (.int .u8 0)) 44 (fun _ => .int .u8 0) (lits_at _ rfl)
      rw [Array.size_replicate] at hr
      exact hr.congr fun p _ => by rw [if_neg (by omega)]
  case round =>
    obtain ⟨k, hk, rfl, hb, hr16, hg, hr⟩ := hrel
    by_cases hlt : k < 16
    · have hc := hr.cell (i := k) (by omega)
      have hf := hr.frozen k
      rw [if_neg (by omega)] at hc
      obtain ⟨x, hx⟩ : ∃ x, x = S1.getD k 0 := ⟨_, rfl⟩
      have hcs : wr.cell? ⟨w3.heap.size, k, none⟩ = some (.int .u8 (x : Int)) := by
        rw [cell_of_row _ _ _ _ _ _ hg, bytesV_at _ _ (by rw [HSl.out]; omega), ← hx]
      have HX := hid hx
      have HB := hid hb
      have HR := hid hr16
      have HG := hid hg
      have HRr := hid hr
      clear hx hb hr16 hg hr
      go_wp2
      go_roundw
      case rel =>
        refine ⟨k + 1, by omega, by go_num, HB.out.setCell (by show _ ≤ w4.heap.size; exact HB4.out.size) _, ?_, ?_, ?_⟩
        · obtain ⟨Z2, z1, z2⟩ := HR.out
          exact ⟨Z2, (heap_setCell_other _ _ _ _ (by show w.heap.size ≠ w4.heap.size; omega)).trans z1, z2⟩
        · exact (heap_setCell_other _ _ _ _ (by show w3.heap.size ≠ w4.heap.size; omega)).trans HG.out
        · refine (HRr.out.set k _).congr fun p hp => ?_
          by_cases h : p = k
          · rw [if_pos h, if_pos (by omega), h, HX.out]
          · rw [if_neg h]
            by_cases h2 : p < k
            · rw [if_pos h2, if_pos (by omega)]
            · rw [if_neg h2, if_neg (by omega)]
      case measure => simp [intOf]; omega
    · obtain rfl : k = 16 := by omega
      obtain ⟨Z1, z1, z2⟩ := hr16
      obtain ⟨c1, e1, e2, e3⟩ := hr
      have E2 := hid e2
      have Z2 := hid z2
      have E3 := hid (take16 HSl.out e2 e3)
      have HB := hid hb
      clear e2 e3 z2 hb hg
      go_wp2_with (first | (with_reducible refine wpList_load_row rfl 44 (.tmp 4) rfl w4.heap.size rfl 44 c1 (0, 0) _ e1 Tryd.under_d16 rfl (by rw [E2.out]; exact Tryd.size_d16) ?_) | (with_reducible refine wpList_store_row rfl 44 (.tmp 2) (.tmp 18) rfl w.heap.size c1 rfl rfl 44 Z1 z1 (by rw [E2.out]; exact Tryd.size_d16) (by rw [E2.out, Z2.out]) (by rw [E3.out]; exact bytesV_one _) ?_))
      refine bodyPost_ret (results_cell_row rfl _ _ w.heap.size 44 c1 (0, 0) _ rfl (setRow_heap _ _ _ _ _ _ z1) Tryd.under_d16 rfl (by rw [E2.out]; exact Tryd.size_d16)) rfl ?_
      exact ⟨by rw [E3.out], below_setRow HB.out (by omega) _⟩

set_option maxRecDepth 100000 in
set_option maxHeartbeats 800000 in
theorem refOf_any (tag : Int) (ao : Option Addr) (cap : Nat) (ss : List ByteArray) (w : World) (hp : Parts w ao ss) (hf : FewP ss) (hC : KC w) :
    Calls Tryd.prog 22 #[.int .i64 tag, .slice ao ss.length cap] w fun e w' => e = .returned (.agg (bytesV (ofN tag ss))) ∧ Below w.heap.size w w' := by
  have HI := hid fun W hW => Input_any tag ao cap ss W (hp.below hW) hf
  have HC := hid hC
  have hle : (ofIn tag ss).length ≤ 12109 := by
    have h1 := ofIn_le tag ss (fun s hs => Nat.le_trans (hf.2 s hs) (by decide))
    have h2 := hf.1
    omega
  have hpos : 0 < (ofIn tag ss).length := by simp [ofIn]
  obtain ⟨n, hn⟩ : ∃ n, n = ss.length := ⟨_, rfl⟩
  rw [← hn] at HI ⊢
  obtain ⟨M, hM⟩ : ∃ M, M = ofIn tag ss := ⟨_, rfl⟩
  have HMb := hid (show Bn M by rw [hM]; exact ofIn_bn tag ss)
  have HO := hid (show (sha M).take 16 = ofN tag ss by rw [hM]; rfl)
  rw [← hM] at HI hle hpos
  clear hM hn hp hf hC
  go_enter Tryd.func22, Tryd.ntmps22
  go_wp2_with fail
  have hW0 : Below w.heap.size w (w.alloc (.cells (Array.replicate 16 (.int .u8 0)) 44)) := (Below.refl _ _).alloc (Nat.le_refl _) _
  have hR0 : Res16 w (w.alloc (.cells (Array.replicate 16 (.int .u8 0)) 44)) := ⟨Array.replicate 16 (.int .u8 0), heap_alloc_new w _, Array.size_replicate⟩
  refine (HI.out _ hW0).mono ?_
  rintro e w3 ⟨v3, rfl, hown, hb3⟩
  have HB3 := hid (further hW0 hb3)
  have HR3 := hid (hR0.keep hb3)
  obtain ⟨g, c, rfl, _, _, _, hlie, _⟩ := lie_of_own hown hpos
  have HLi := hid hlie
  clear hb3 hW0 hR0 HI hown hlie
  go_wp2_with fail
  refine (Short_any g c M w3 (by omega) HMb.out HLi.out (HC.out.below HB3.out)).mono ?_
  rintro e w4 ⟨rfl, hb4⟩
  have HB4 := hid (further HB3.out hb4)
  obtain ⟨Z1, z1, z2⟩ := HR3.out.keep hb4
  have Z2 := hid z2
  rw [HO.out]
  obtain ⟨D, hD⟩ : ∃ D, D = bytesV (ofN tag ss) := ⟨_, rfl⟩
  have HD := hid hD
  have HD16 := hid (show D.size = 16 by rw [hD, bytesV_size, ofN, List.length_take, sha_length]; rfl)
  rw [← hD]
  clear hb4 z2 hD
  go_wp2_with (with_reducible refine wpList_store_row rfl 44 (.tmp 4) (.tmp 8) rfl w.heap.size D rfl rfl 44 Z1 z1 (by rw [HD16.out]; exact Tryd.size_d16) (by rw [HD16.out, Z2.out]) (by rw [HD.out]; exact bytesV_one _) ?_)
  refine bodyPost_ret (results_cell_row rfl _ _ w.heap.size 44 D (0, 0) _ rfl (setRow_heap _ _ _ _ _ _ z1) Tryd.under_d16 rfl (by rw [HD16.out]; exact Tryd.size_d16)) rfl ?_
  exact ⟨by rw [HD.out], below_setRow HB4.out (by omega) _⟩

end Go.Proofs.YtihljbephlpgcaaDoor
