/-
  gantry/gantrylaw02.sanity.
-/
import Derived.Test.YtihljbephlpgcaaDoorHashX
import Derived.Test.YtihljbephlpgcaaDoorHashQ
import Derived.Lib.SlBytesConst
namespace Go.Proofs.YtihljbephlpgcaaDoor
open Go.RowKit
open Go.Lib (hid)
open S

theorem text_of_row {w : World} {g : Nat} {cs : Array Value} {T : TypeId} {l : List Nat} {cap : Nat} {fr : Nat × Nat} (h : w.heap[g]? = some (.cells cs T fr)) (e : cs = bytesV l) : TextOf w (.slice (some ⟨g, 0, none⟩) l.length cap) l := by
  intro w' hb
  refine conv_row w' g 0 l.length cap l rfl fun i hi => ?_
  rw [Nat.zero_add, cell_of_row _ _ _ _ _ _ (stays hb h), e]
  exact bytesV_at _ i hi

theorem parts_new (w : World) (a b : ByteArray) : Parts (w.alloc (.cells #[.string a, .string b] 9)) (some ⟨w.heap.size, 0, none⟩) [a, b] := by
  intro _
  refine ⟨w.heap.size, 0, rfl, by simp, fun i s hs => ?_⟩
  rw [Nat.zero_add, cell_of_row _ _ _ _ _ _ (heap_alloc_new w _)]
  match i, hs with
  | 0, hs => simpa using hs
  | 1, hs => simpa using hs

/-- A block of 32 cells. -/
def At32 (w : World) (g : Nat) (l : List Nat) : Prop := w.heap[g]? = some (.cells (bytesV l) 24 (0, 0))

theorem abc_lit : bytesV (sha [97, 98, 99]) = #[.int .u8 186, .int .u8 120, .int .u8 22, .int .u8 191, .int .u8 143, .int .u8 1, .int .u8 207, .int .u8 234, .int .u8 65, .int .u8 65, .int .u8 64, .int .u8 222, .int .u8 93, .int .u8 174, .int .u8 34, .int .u8 35, .int .u8 176, .int .u8 3, .int .u8 97, .int .u8 163, .int .u8 150, .int .u8 23, .int .u8 122, .int .u8 156, .int .u8 180, .int .u8 16, .int .u8 255, .int .u8 97, .int .u8 242, .int .u8 0, .int .u8 21, .int .u8 173] := by
  have h : sha [97, 98, 99] = [186, 120, 22, 191, 143, 1, 207, 234, 65, 65, 64, 222, 93, 174, 34, 35, 176, 3, 97, 163, 150, 23, 122, 156, 180, 16, 255, 97, 242, 0, 21, 173] := by decide +kernel
  rw [h]
  rfl
theorem abc_cell {w : World} {g : Nat} {A : Array Value} {T : TypeId} (h : w.heap[g]? = some (.cells A T (0, 0))) (hA : A = bytesV (sha [97, 98, 99])) (k b : Nat) (hb : (#[.int .u8 186, .int .u8 120, .int .u8 22, .int .u8 191, .int .u8 143, .int .u8 1, .int .u8 207, .int .u8 234, .int .u8 65, .int .u8 65, .int .u8 64, .int .u8 222, .int .u8 93, .int .u8 174, .int .u8 34, .int .u8 35, .int .u8 176, .int .u8 3, .int .u8 97, .int .u8 163, .int .u8 150, .int .u8 23, .int .u8 122, .int .u8 156, .int .u8 180, .int .u8 16, .int .u8 255, .int .u8 97, .int .u8 242, .int .u8 0, .int .u8 21, .int .u8 173] : Array Value)[k]? = some (.int .u8 (b : Int))) : w.cell? ⟨g, k, none⟩ = some (.int .u8 (b : Int)) := by
  rw [cell_of_row _ _ _ _ _ _ h, hA, abc_lit]
  exact hb
theorem abc_str : strN (hexN (sha [97, 98, 99])) = ⟨#[98, 97, 55, 56, 49, 54, 98, 102, 56, 102, 48, 49, 99, 102, 101, 97, 52, 49, 52, 49, 52, 48, 100, 101, 53, 100, 97, 101, 50, 50, 50, 51, 98, 48, 48, 51, 54, 49, 97, 51, 57, 54, 49, 55, 55, 97, 57, 99, 98, 52, 49, 48, 102, 102, 54, 49, 102, 50, 48, 48, 49, 53, 97, 100]⟩ := by
  rw [abc_digits]
  decide +kernel

theorem mac_str : strN (hexN (macN [74, 101, 102, 101] [119, 104, 97, 116, 32, 100, 111, 32, 121, 97, 32, 119, 97, 110, 116, 32, 102, 111, 114, 32, 110, 111, 116, 104, 105, 110, 103, 63])) = ⟨#[53, 98, 100, 99, 99, 49, 52, 54, 98, 102, 54, 48, 55, 53, 52, 101, 54, 97, 48, 52, 50, 52, 50, 54, 48, 56, 57, 53, 55, 53, 99, 55, 53, 97, 48, 48, 51, 102, 48, 56, 57, 100, 50, 55, 51, 57, 56, 51, 57, 100, 101, 99, 53, 56, 98, 57, 54, 52, 101, 99, 51, 56, 52, 51]⟩ := by
  rw [mac_digits]
  decide +kernel

theorem of_str : strN (hexN (ofN 8 [⟨#[97]⟩, ⟨#[]⟩])) = ⟨#[51, 54, 99, 100, 53, 48, 56, 53, 48, 51, 50, 57, 102, 56, 56, 52, 48, 54, 101, 51, 49, 98, 98, 56, 97, 55, 100, 56, 102, 98, 54, 50]⟩ := by
  rw [of_digits]
  decide +kernel
theorem of_lit : bytesV (ofN 8 [⟨#[97]⟩, ⟨#[]⟩]) = #[.int .u8 54, .int .u8 205, .int .u8 80, .int .u8 133, .int .u8 3, .int .u8 41, .int .u8 248, .int .u8 132, .int .u8 6, .int .u8 227, .int .u8 27, .int .u8 184, .int .u8 167, .int .u8 216, .int .u8 251, .int .u8 98] := by
  have h : ofN 8 [⟨#[97]⟩, ⟨#[]⟩] = [54, 205, 80, 133, 3, 41, 248, 132, 6, 227, 27, 184, 167, 216, 251, 98] := by decide +kernel
  rw [h]
  rfl
theorem of_cell {w : World} {g : Nat} {T : TypeId} (h : w.heap[g]? = some (.cells (bytesV (ofN 8 [⟨#[97]⟩, ⟨#[]⟩])) T (0, 0))) (k b : Nat) (hb : (#[.int .u8 54, .int .u8 205, .int .u8 80, .int .u8 133, .int .u8 3, .int .u8 41, .int .u8 248, .int .u8 132, .int .u8 6, .int .u8 227, .int .u8 27, .int .u8 184, .int .u8 167, .int .u8 216, .int .u8 251, .int .u8 98] : Array Value)[k]? = some (.int .u8 (b : Int))) : w.cell? ⟨g, k, none⟩ = some (.int .u8 (b : Int)) := by
  rw [cell_of_row _ _ _ _ _ _ h, of_lit]
  exact hb
theorem of_len : (ofN 8 [⟨#[97]⟩, ⟨#[]⟩]).length = 16 := by rw [ofN, List.length_take, sha_length]; rfl
theorem of_bn : Bn (ofN 8 [⟨#[97]⟩, ⟨#[]⟩]) := fun x hx => sha_bn _ x (List.mem_of_mem_take hx)

/-- A guarded load of a whole row. -/
theorem wpList_load_row_g {P : Program} {ops : Array Oper} {rest : List Oper} {o : Oper} {a : Act} {w : World} {Q : Exit → Act → World → Prop} (hw : Region.wanted o (yielded ops a.tmps) = true) (ty : TypeId) (x : Operand) (ho : o.op = .load ty x)
    (g : Nat) (hx : a.eval x = .pointer (some ⟨g, 0, none⟩)) (t : TypeId) (cs : Array Value) (fr : Nat × Nat) (d : TypeDesc) (hg : w.heap[g]? = some (.cells cs t fr))
    (hu : P.underlying ty = some d) (hd : (match d with | .struct _ | .array _ _ => true | _ => false) = true) (hi : (P.info? ty).map (·.size) = some cs.size)
    (h : wpList P ops Q rest (a.put o.dst (.agg cs)) w) : wpList P ops Q (o :: rest) a w :=
  BigFrame.wpList_want hw fun _ hK => wp_load_row ty x ho g hx t cs fr d hg hu hd hi (hK _ _ h)
theorem eql_bytes (l : List Nat) (h : l.length = 32) (w : World) : (binOp .eql 24 (.agg (bytesV l)) (.agg (bytesV l))).run Tryd.prog w = .ok (.bool true) w := by
  have e : bytesV l = ((l.map fun x : Nat => (x : Int)).map (Value.int .u8)).toArray := by simp [bytesV]
  rw [e]
  exact eql_h32 _ (by simpa using h) w
set_option maxRecDepth 100000 in
set_option maxHeartbeats 3200000 in
theorem sanity_any (w : World) (hK : KR w) : Calls Tryd.prog 10 #[] w fun e w' => e = .returned (.bool true) ∧ Below w.heap.size w w' := by
  have HK := hid hK
  clear hK
  go_enter Tryd.func10, Tryd.ntmps10
  go_upto_region 1 with fail
  go_cut [1] (fun s1 wx => ∃ g, s1 = .pointer (some ⟨g, 0, none⟩) ∧ w.heap.size ≤ g ∧ Below w.heap.size w wx ∧ At32 wx g (sha [97, 98, 99]))
  case first =>
    have kc := fun (w : World) (C : Array Value) (n c : Nat) => Lib.run_convert_bytes_const (P := Tryd.prog) w 22 5 C n c Tryd.under_bs Tryd.under_u8
    go_wp2_with fail
    clear kc
    have HB1 := hid (show Below w.heap.size w (w.alloc (.cells #[.int .u8 97, .int .u8 98, .int .u8 99] 5 (3, 4))) from (Below.refl _ _).alloc (Nat.le_refl _) _)
    refine (Sum_any [97, 98, 99] _ _ (by unfold Bn; decide) (by decide) (text_of_row (heap_alloc_new w _) rfl) (HK.out.below HB1.out)).mono ?_
    rintro e w3 ⟨rfl, hb3⟩
    have HB3 := hid (further HB1.out hb3)
    obtain ⟨L, hLL⟩ : ∃ L, L = bytesV (sha [97, 98, 99]) := ⟨_, rfl⟩
    rw [← hLL]
    have HL := hid hLL
    have HL32 := hid (show L.size = 32 by rw [hLL, bytesV_size]; exact sha_length _)
    clear hb3 hLL
    go_wp2_with (with_reducible refine wpList_store_at rfl 24 (.tmp 1) (.tmp 9) rfl w3.heap.size 0 L rfl rfl _ 24 (heap_alloc_new w3 _) ?s1 ?s2 ?s3 ?_)
    case s1 => rw [HL32.out]; exact Tryd.size_h32
    case s2 => rw [HL32.out]; exact Nat.le_refl _
    case s3 => rw [HL.out]; exact bytesV_one _
    intro w4 F1 F2 F3 F4
    have H4 := hid (show At32 w4 w3.heap.size (sha [97, 98, 99]) by
      unfold At32
      rw [F1.out, splice_all (by show 32 = L.toList.length; rw [Array.length_toList, HL32.out]), HL.out])
    have HB4 := hid (below_same (HB3.out.alloc HB3.out.size _) HB3.out.size F2.out (F3.out.trans (by simp)) F4.out)
    go_wp2_with fail
    go_meet
    exact ⟨_, rfl, HB3.out.size, HB4.out, H4.out⟩
  case rest =>
    obtain ⟨g1, rfl, hg1, hb, h1⟩ := hcut
    have HB := hid hb
    have H1 := hid h1
    clear hb h1
    go_upto_region 2 with fail
    go_cut [2] (fun s2 wx => ∃ g, s2 = .pointer (some ⟨g, 0, none⟩) ∧ w.heap.size ≤ g ∧ Below w.heap.size w wx ∧ At32 wx g1 (sha [97, 98, 99]) ∧ At32 wx g (sha [97, 98, 99]))
    case first =>
      go_wp2_with fail
      refine (Begin_any wc).mono ?_
      rintro e v1 ⟨rfl, hb1⟩
      have HC1 := hid hb1
      clear hb1
      go_wp2_with fail
      have hAdd := Add_any [] ⟨#[97]⟩ v1 (fun x h => by cases h) (by decide) (HK.out.below (further HB.out HC1.out))
      rw [List.nil_append, show tx ⟨#[97]⟩ = [97] from rfl] at hAdd
      refine hAdd.mono ?_
      clear hAdd
      rintro e v2 ⟨rfl, hb2⟩
      have HC2 := hid (further HC1.out hb2)
      clear hb2
      go_wp2_with fail
      have hAdd := Add_any [97] ⟨#[98, 99]⟩ v2 (by unfold Bn; decide) (by decide) (HK.out.below (further HB.out HC2.out))
      rw [show [97] ++ tx ⟨#[98, 99]⟩ = [97, 98, 99] from rfl] at hAdd
      refine hAdd.mono ?_
      clear hAdd
      rintro e v3 ⟨rfl, hb3⟩
      have HC3 := hid (further HC2.out hb3)
      clear hb3
      go_wp2_with fail
      refine (StreamSum_any [97, 98, 99] v3 (by unfold Bn; decide) (by decide) (HK.out.below (further HB.out HC3.out))).mono ?_
      rintro e v4 ⟨rfl, hb4⟩
      have HC4 := hid (further HC3.out hb4)
      obtain ⟨L, hLL⟩ : ∃ L, L = bytesV (sha [97, 98, 99]) := ⟨_, rfl⟩
      rw [← hLL]
      have HL := hid hLL
      have HL32 := hid (show L.size = 32 by rw [hLL, bytesV_size]; exact sha_length _)
      clear hb4 hLL
      go_wp2_with (with_reducible refine wpList_store_at rfl 24 (.tmp 2) (.tmp 13) rfl v4.heap.size 0 L rfl rfl _ 24 (heap_alloc_new v4 _) ?s1 ?s2 ?s3 ?_)
      case s1 => rw [HL32.out]; exact Tryd.size_h32
      case s2 => rw [HL32.out]; exact Nat.le_refl _
      case s3 => rw [HL.out]; exact bytesV_one _
      intro w4 F1 F2 F3 F4
      have H4 := hid (show At32 w4 v4.heap.size (sha [97, 98, 99]) by
        unfold At32
        rw [F1.out, splice_all (by show 32 = L.toList.length; rw [Array.length_toList, HL32.out]), HL.out])
      have HC5 := hid (below_same (HC4.out.alloc HC4.out.size _) HC4.out.size F2.out (F3.out.trans (by simp)) F4.out)
      go_wp2_with fail
      go_meet
      exact ⟨_, rfl, Nat.le_trans HB.out.size HC4.out.size, further HB.out HC5.out, stays HC5.out H1.out, H4.out⟩
    case rest =>
      obtain ⟨g2, rfl, hg2, hb, h1, h2⟩ := hcut
      have HB2 := hid hb
      have H12 := hid h1
      have H2 := hid h2
      clear hb h1 h2 HB H1
      go_upto_region 3 with fail
      go_cut [3] (fun s3 wx => ∃ g, s3 = .pointer (some ⟨g, 0, none⟩) ∧ Below w.heap.size w wx ∧ At32 wx g1 (sha [97, 98, 99]) ∧ At32 wx g2 (sha [97, 98, 99]) ∧ wx.heap[g]? = some (.cells (bytesV (ofN 8 [⟨#[97]⟩, ⟨#[]⟩])) 44 (0, 0)))
      case first =>
        go_wp2_with fail
        have HC1 := hid (show Below wc.heap.size wc (wc.alloc (.cells #[.string ⟨#[97]⟩, .string ⟨#[]⟩] 9)) from (Below.refl _ _).alloc (Nat.le_refl _) _)
        refine (Of_any 8 (some ⟨wc.heap.size, 0, none⟩) 2 [⟨#[97]⟩, ⟨#[]⟩] _ (parts_new wc _ _) (by decide) ?sz (HK.out.below (further HB2.out HC1.out))).mono ?_
        case sz =>
          intro t ht
          rcases List.mem_cons.1 ht with rfl | ht
          · decide
          · rw [List.mem_singleton.1 ht]; decide
        rintro e v1 ⟨rfl, hb1⟩
        have HC2 := hid (further HC1.out hb1)
        obtain ⟨L, hLL⟩ : ∃ L, L = bytesV (ofN 8 [⟨#[97]⟩, ⟨#[]⟩]) := ⟨_, rfl⟩
        rw [← hLL]
        have HL := hid hLL
        have HL16 := hid (show L.size = 16 by rw [hLL, bytesV_size, ofN, List.length_take, sha_length]; rfl)
        clear hb1 hLL
        go_wp2_with (with_reducible refine wpList_store_at rfl 44 (.tmp 3) (.tmp 15) rfl v1.heap.size 0 L rfl rfl _ 44 (heap_alloc_new v1 _) ?s1 ?s2 ?s3 ?_)
        case s1 => rw [HL16.out]; exact Tryd.size_d16
        case s2 => rw [HL16.out]; exact Nat.le_refl _
        case s3 => rw [HL.out]; exact bytesV_one _
        intro w4 F1 F2 F3 F4
        have H4 := hid (show w4.heap[v1.heap.size]? = some (.cells (bytesV (ofN 8 [⟨#[97]⟩, ⟨#[]⟩])) 44 (0, 0)) by
          rw [F1.out, splice_all (by show 16 = L.toList.length; rw [Array.length_toList, HL16.out]), HL.out])
        have HC3 := hid (below_same (HC2.out.alloc HC2.out.size _) HC2.out.size F2.out (F3.out.trans (by simp)) F4.out)
        go_wp2_with fail
        go_meet
        exact ⟨_, rfl, further HB2.out HC3.out, stays HC3.out H12.out, stays HC3.out H2.out, H4.out⟩
      case rest =>
        obtain ⟨g3, rfl, hb, h1, h2, h3⟩ := hcut
        have HB3 := hid hb
        have H13 := hid h1
        have H23 := hid h2
        have H3 := hid h3
        clear hb h1 h2 h3 HB2 H12 H2
        have m1 : tx ⟨#[74, 101, 102, 101]⟩ = [74, 101, 102, 101] := rfl
        have m2 : tx ⟨#[119, 104, 97, 116, 32, 100, 111, 32, 121, 97, 32, 119, 97, 110, 116, 32, 102, 111, 114, 32, 110, 111, 116, 104, 105, 110, 103, 63]⟩ = [119, 104, 97, 116, 32, 100, 111, 32, 121, 97, 32, 119, 97, 110, 116, 32, 102, 111, 114, 32, 110, 111, 116, 104, 105, 110, 103, 63] := rfl
        have hM := Mac_any ⟨#[74, 101, 102, 101]⟩ ⟨#[119, 104, 97, 116, 32, 100, 111, 32, 121, 97, 32, 119, 97, 110, 116, 32, 102, 111, 114, 32, 110, 111, 116, 104, 105, 110, 103, 63]⟩ wc (by decide) (by decide) (HK.out.below HB3.out)
        rw [m1, m2] at hM
        obtain ⟨mc, hmc⟩ : ∃ mc, mc = macN [74, 101, 102, 101] [119, 104, 97, 116, 32, 100, 111, 32, 121, 97, 32, 119, 97, 110, 116, 32, 102, 111, 114, 32, 110, 111, 116, 104, 105, 110, 103, 63] := ⟨_, rfl⟩
        rw [← hmc] at hM
        have HMc := hid hmc
        have HM := hid hM
        clear m1 m2 hM hmc
        go_wp2_with fail
        refine HM.out.mono ?_
        rintro e v1 ⟨rfl, hb1⟩
        have HC1 := hid hb1
        clear hb1
        go_wp2_with fail
        have hq1 := Equal_any ⟨#[97, 98]⟩ ⟨#[97, 98]⟩ v1 (by decide)
        rw [show (decide ((⟨#[97, 98]⟩ : ByteArray) = ⟨#[97, 98]⟩)) = true by decide] at hq1
        refine hq1.mono ?_
        clear hq1
        rintro e v2 ⟨rfl, hb2⟩
        have HC2 := hid (further HC1.out hb2)
        clear hb2
        go_wp2_with fail
        have hq2 := Equal_any ⟨#[97, 98]⟩ ⟨#[97, 99]⟩ v2 (by decide)
        rw [show (decide ((⟨#[97, 98]⟩ : ByteArray) = ⟨#[97, 99]⟩)) = false by decide] at hq2
        refine hq2.mono ?_
        clear hq2
        rintro e v3 ⟨rfl, hb3⟩
        have HC3 := hid (further HC2.out hb3)
        clear hb3
        go_wp2_with fail
        have hq3 := Equal_any ⟨#[]⟩ ⟨#[97]⟩ v3 (by decide)
        rw [show (decide ((⟨#[]⟩ : ByteArray) = ⟨#[97]⟩)) = false by decide] at hq3
        refine hq3.mono ?_
        clear hq3
        rintro e v4 ⟨rfl, hb4⟩
        have HC4 := hid (further HC3.out hb4)
        clear hb4
        obtain ⟨A, hA⟩ : ∃ A, A = bytesV (sha [97, 98, 99]) := ⟨_, rfl⟩
        have hA32 : A.size = 32 := by rw [hA, bytesV_size]; exact sha_length _
        have h1 := stays HC4.out H13.out
        have h2 := stays HC4.out H23.out
        rw [← hA] at h1 h2
        have HA := hid hA
        have HA32 := hid hA32
        have HH1 := hid h1
        have HH2 := hid h2
        clear hA hA32 h1 h2
        go_wp2_with (first | (with_reducible refine wpList_load_row rfl 24 (.tmp 1) rfl g1 rfl 24 A (0, 0) _ HH1.out Tryd.under_h32 rfl (by rw [HA32.out]; exact Tryd.size_h32) ?_))
        have hB := Bytes32_any (sha [97, 98, 99]) (sha_length _) v4
        rw [← HA.out] at hB
        refine hB.mono ?_
        clear hB
        rintro e v5 ⟨rfl, hb5⟩
        have HC5 := hid (further HC4.out hb5)
        have hh1 := stays hb5 HH1.out
        have hh2 := stays hb5 HH2.out
        have HI1 := hid hh1
        have HI2 := hid hh2
        clear hb5 hh1 hh2
        go_wp2_with fail
        have hX := hex_any (strN (sha [97, 98, 99])) (by rw [strN_size, sha_length]; decide) (by rw [strN_size, sha_length]; decide) v5
        rw [tx_strN _ (sha_bn _), abc_str] at hX
        refine hX.mono ?_
        clear hX
        rintro e v6 ⟨rfl, hb6⟩
        have HC6 := hid (further HC5.out hb6)
        have hj1 := stays hb6 HI1.out
        have hj2 := stays hb6 HI2.out
        have HJ1 := hid hj1
        have HJ2 := hid hj2
        clear hb6 hj1 hj2
        have hq := fun W => eql_bytes (sha [97, 98, 99]) (sha_length _) W
        rw [← HA.out] at hq
        go_wp2_with (first | (refine wpList_load_row_g ?w1 24 (.tmp 1) rfl g1 rfl 24 A (0, 0) _ HJ1.out Tryd.under_h32 rfl (by rw [HA32.out]; exact Tryd.size_h32) ?_; case w1 => rfl) | (refine wpList_load_row_g ?w1 24 (.tmp 2) rfl g2 rfl 24 A (0, 0) _ HJ2.out Tryd.under_h32 rfl (by rw [HA32.out]; exact Tryd.size_h32) ?_; case w1 => rfl))
        clear hq
        have hmB : Bn mc := by rw [HMc.out]; exact sha_bn _
        have hml : mc.length = 32 := by rw [HMc.out]; exact sha_length _
        have hX := hex_any (strN mc) (by rw [strN_size, hml]; decide) (by rw [strN_size, hml]; decide) v6
        rw [tx_strN _ hmB, show strN (hexN mc) = _ from (congrArg (fun m => strN (hexN m)) HMc.out).trans mac_str] at hX
        refine hX.mono ?_
        clear hX hmB hml
        rintro e v7 ⟨rfl, hb7⟩
        have HC7 := hid (further HC6.out hb7)
        have hk3 := stays HC7.out H3.out
        clear hb7
        obtain ⟨D, hD⟩ : ∃ D, D = bytesV (ofN 8 [⟨#[97]⟩, ⟨#[]⟩]) := ⟨_, rfl⟩
        have hD16 : D.size = 16 := by rw [hD, bytesV_size]; exact of_len
        rw [← hD] at hk3
        have HD := hid hD
        have HD16 := hid hD16
        have HK3 := hid hk3
        clear hk3 hD hD16
        go_wp2_with (refine wpList_load_row_g ?w1 44 (.tmp 3) rfl g3 rfl 44 D (0, 0) _ HK3.out Tryd.under_d16 rfl (by rw [HD16.out]; exact Tryd.size_d16) ?_; case w1 => rfl)
        have hT := Text_any (ofN 8 [⟨#[97]⟩, ⟨#[]⟩]) of_len v7
        rw [← HD.out] at hT
        refine hT.mono ?_
        clear hT
        rintro e v8 ⟨rfl, hb8⟩
        have HC8 := hid (further HC7.out hb8)
        clear hb8
        go_wp2_with fail
        have hX := hex_any (strN (ofN 8 [⟨#[97]⟩, ⟨#[]⟩])) (by rw [strN_size, of_len]; decide) (by rw [strN_size, of_len]; decide) v8
        rw [tx_strN _ of_bn, of_str] at hX
        refine hX.mono ?_
        clear hX
        rintro e v9 ⟨rfl, hb9⟩
        have HC9 := hid (further HC8.out hb9)
        clear hb9
        go_wp2_with fail
        go_ret
        exact ⟨rfl, further HB3.out HC9.out⟩

end Go.Proofs.YtihljbephlpgcaaDoor
