/-
  The walk of the law HashSumMatchesSpec.
-/
import Derived.Test.YtihljbephlpgcaaDoorHashV
import Derived.Test.YtihljbephlpgcaaDoorHashRE
import Derived.Test.YtihljbephlpgcaaDoorHashRG
import Derived.Test.YtihljbephlpgcaaDoorHashJG
namespace Go.Proofs.YtihljbephlpgcaaDoor
open Go.RowKit
open Go.Lib (hid)
open S

theorem eqlI (l : List Nat) (h : l.length = 32) (w : World) : (Op.equalIn 10000 24 (.agg (bytesV l)) (.agg (bytesV l))).run Tryd.prog w = .ok true w := by
  obtain ⟨ds, hds⟩ : ∃ ds : List Int, ds = l.map fun x : Nat => (x : Int) := ⟨_, rfl⟩
  have e1 : bytesV l = (ds.map (Value.int .u8)).toArray := by rw [hds]; simp [bytesV]
  have hl : ds.length = 32 := by rw [hds]; simpa using h
  rw [e1]
  obtain ⟨i0, hi, _, hz1, _⟩ := info_parts Tryd.info_u8
  have hc : Tryd.prog.cellsOf 5 = 1 := by kernel_rfl
  have e := run_equalIn_array (P := Tryd.prog) w 9999 (ds.map (Value.int .u8)).toArray (ds.map (Value.int .u8)).toArray Tryd.under_h32 hi
  rw [hc, eqItems_selfN ds w (List.range 32) (fun i hi => by rw [hl]; exact List.mem_range.1 hi)] at e
  exact e
/-- While the law's last answer is made. -/
def SumLawInv (w : World) (ao : Option Addr) (len : Nat) (cap : Nat) (s : ByteArray) (L5 : Array Value) (g5 : Nat) (u6 : Value) (u7 : Value) (u8 : Value) (u9 : Value) (u10 : Value) (u11 : Value) (u12 : Value) (u13 : Value) (u14 : Value) (L : Nat → Bool) (a : Act) (w' : World) : Prop :=
  ∃ x2 x15 x16 x17 x18 x19 x20 x21 x22 x23 x24 x25 x26 x27 x28 : Value, a = ⟨#[.slice ao len cap, undef, x2, .bool true, .string s, .pointer (some ⟨g5, 0, none⟩), u6, u7, u8, u9, u10, u11, u12, u13, u14, x15, x16, x17, x18, x19, x20, x21, x22, x23, x24, x25, x26, x27, x28], []⟩ ∧ Below w.heap.size w w' ∧ w'.heap[g5]? = some (.cells L5 24 (0, 0)) ∧
    (L 0 = true → x15 = .bool true) ∧
    (L 1 = true → x16 = .bool true) ∧
    (L 2 = true → x17 = .agg L5) ∧
    (L 3 = true → x18 = .string s) ∧
    (L 4 = true → ∃ g, ∃ c, x19 = .slice (some ⟨g, 0, none⟩) s.size c ∧ Lie w' g 0 (tx s)) ∧
    (L 5 = true → x20 = .agg L5) ∧
    (L 6 = true → x21 = .bool true) ∧
    (L 7 = true → x22 = .bool true) ∧
    (L 8 = true → x23 = .bool true) ∧
    (L 9 = true → x24 = .slice ao len cap) ∧
    (L 10 = true → x25 = .string s) ∧
    (L 11 = true → x26 = .string s) ∧
    (L 12 = true → x27 = .bool true) ∧
    (L 13 = true → x28 = .bool true) ∧
    (L 14 = true → x2 = .bool true)

set_option maxRecDepth 100000 in
set_option maxHeartbeats 3200000 in
theorem walkSum (ao : Option Addr) (len cap : Nat) (m : List Nat) (w : World) (hl : m.length = len) (hB : Bn m) (hT : TextOf w (.slice ao len cap) m) (HC' : KC w) (HK' : KR w) :
    Calls Tryd.prog 3 #[.slice ao len cap] w fun e w' => e = .returned (.bool true) ∧ Below w.heap.size w w' := by
  have HC := hid HC'
  have HK := hid HK'
  have HTx := hid hT
  obtain ⟨s, hs⟩ : ∃ s, s = strN m := ⟨_, rfl⟩
  have HTs := hid (show tx s = m by rw [hs, tx_strN _ hB])
  have hss : s.size = len := by rw [← tx_length, HTs.out]; exact hl
  have HT := hid (show ∀ w', Below w.heap.size w w' → (convert 22 9 (.slice ao len cap)).run Tryd.prog w' = .ok (.string s) w' by rw [hs]; exact hT)
  have HSs := hid hss
  have HMl := hid hl
  have HBn := hid hB
  clear hT HC' HK' hs hss hl hB
  go_enter Tryd.func3, Tryd.ntmps3
  go_wp2_with fail
  refine (sanity_any w HK.out).mono ?_
  rintro e w1 ⟨rfl, hb1⟩
  have HB1 := hid hb1
  clear hb1
  by_cases h0 : (1000 : Int) < len
  · go_wp2_with fail
    go_ret
    exact ⟨rfl, HB1.out⟩
  · have hcv := HT.out w1 HB1.out
    go_wp2_with fail
    clear hcv
    have hX := Sum_any m (.slice ao len cap) w1 HBn.out (by rw [HMl.out]; omega) (fun w' hb => HTx.out w' (further HB1.out hb)) (HK.out.below HB1.out)
    obtain ⟨L5, hL5⟩ : ∃ L5, L5 = bytesV (sha (tx s)) := ⟨_, rfl⟩
    have HL := hid hL5
    have HL32 := hid (show L5.size = 32 by rw [hL5, bytesV_size]; exact sha_length _)
    have HQ := hid (show ∀ W, (Op.equalIn 10000 24 (.agg L5) (.agg L5)).run Tryd.prog W = .ok true W by rw [hL5]; exact fun W => eqlI _ (sha_length _) W)
    rw [← HTs.out, ← hL5] at hX
    clear hL5
    refine hX.mono ?_
    clear hX
    rintro e w3 ⟨rfl, hb3⟩
    have HB3 := hid (further HB1.out hb3)
    clear hb3 HB1
    go_wp2_with (with_reducible refine wpList_store_at rfl 24 (.tmp 5) (.tmp 14) rfl w3.heap.size 0 L5 rfl rfl _ 24 (heap_alloc_new w3 _) ?s1 ?s2 ?s3 ?_)
    case s1 => rw [HL32.out]; exact Tryd.size_h32
    case s2 => rw [HL32.out]; exact Nat.le_refl _
    case s3 => rw [HL.out]; exact bytesV_one _
    intro w4 F1 F2 F3 F4
    have HG := hid (show w4.heap[w3.heap.size]? = some (.cells L5 24 (0, 0)) by
      rw [F1.out, splice_all64 (by show 32 = L5.toList.length; rw [Array.length_toList, HL32.out])])
    have HB4 := hid (below_same (HB3.out.alloc HB3.out.size _) HB3.out.size F2.out (F3.out.trans (by simp)) F4.out)
    have HSz := hid (show (tx s).length ≤ 1000000 by rw [tx_length, HSs.out]; omega)
    clear F1 F2 F3 F4 HB3
    go_wp2_with fail
    refine wp_region_invG (by kernel_rfl) (SumLawInv w ao len cap s L5 w3.heap.size (.bool true) (.slice ao len cap) (.int .i64 (len : Int)) (.bool (decide ((1000 : Int) < len))) undef (.slice ao len cap) (.string s) (.slice ao len cap) (.agg L5)) (by kernel_rfl) ?_ ?_ ?_
    · intro L hL
      refine ⟨_, _, _, _, _, _, _, _, _, _, _, _, _, _, _, rfl, HB4.out.drew, HG.out, ?_⟩
      refine ⟨?_, ?_, ?_, ?_, ?_, ?_, ?_, ?_, ?_, ?_, ?_, ?_, ?_, ?_, ?_⟩ <;> (intro h; rw [hL] at h; cases h)
    · intro L a w' i o ho hLi hdep hI
      obtain ⟨x2, x15, x16, x17, x18, x19, x20, x21, x22, x23, x24, x25, x26, x27, x28, rfl, hb, hG, f0, f1, f2, f3, f4, f5, f6, f7, f8, f9, f10, f11, f12, f13, f14⟩ := hI
      have hi : i < 15 := (Array.getElem?_eq_some_iff.1 ho).1
      rcases (show i = 0 ∨ i = 1 ∨ i = 2 ∨ i = 3 ∨ i = 4 ∨ i = 5 ∨ i = 6 ∨ i = 7 ∨ i = 8 ∨ i = 9 ∨ i = 10 ∨ i = 11 ∨ i = 12 ∨ i = 13 ∨ i = 14 by omega) with rfl | rfl | rfl | rfl | rfl | rfl | rfl | rfl | rfl | rfl | rfl | rfl | rfl | rfl | rfl
      · cases (Option.some.inj (show some _ = some o from ho))
        refine ⟨rfl, ?_⟩
        generalize hKK : (fun (a' : Act) (w' : World) => ∀ L', More L 0 L' → SumLawInv w ao len cap s L5 w3.heap.size (.bool true) (.slice ao len cap) (.int .i64 (len : Int)) (.bool (decide ((1000 : Int) < len))) undef (.slice ao len cap) (.string s) (.slice ao len cap) (.agg L5) L' a' w') = KK
        go_simp
        rw [← hKK]
        intro L' hL'
        exact ⟨x2, _, x16, x17, x18, x19, x20, x21, x22, x23, x24, x25, x26, x27, x28, rfl, hb, hG, fun _ => rfl, fun h => f1 (hL'.old (by decide) h), fun h => f2 (hL'.old (by decide) h), fun h => f3 (hL'.old (by decide) h), fun h => f4 (hL'.old (by decide) h), fun h => f5 (hL'.old (by decide) h), fun h => f6 (hL'.old (by decide) h), fun h => f7 (hL'.old (by decide) h), fun h => f8 (hL'.old (by decide) h), fun h => f9 (hL'.old (by decide) h), fun h => f10 (hL'.old (by decide) h), fun h => f11 (hL'.old (by decide) h), fun h => f12 (hL'.old (by decide) h), fun h => f13 (hL'.old (by decide) h), fun h => f14 (hL'.old (by decide) h)⟩
      · cases (Option.some.inj (show some _ = some o from ho))
        obtain rfl := f0 (hdep { on := 0, ground := Ground.data } (by simp) (by rfl))
        refine ⟨rfl, ?_⟩
        generalize hKK : (fun (a' : Act) (w' : World) => ∀ L', More L 1 L' → SumLawInv w ao len cap s L5 w3.heap.size (.bool true) (.slice ao len cap) (.int .i64 (len : Int)) (.bool (decide ((1000 : Int) < len))) undef (.slice ao len cap) (.string s) (.slice ao len cap) (.agg L5) L' a' w') = KK
        go_simp
        rw [← hKK]
        intro L' hL'
        exact ⟨x2, _, _, x17, x18, x19, x20, x21, x22, x23, x24, x25, x26, x27, x28, rfl, hb, hG, fun _ => rfl, fun _ => rfl, fun h => f2 (hL'.old (by decide) h), fun h => f3 (hL'.old (by decide) h), fun h => f4 (hL'.old (by decide) h), fun h => f5 (hL'.old (by decide) h), fun h => f6 (hL'.old (by decide) h), fun h => f7 (hL'.old (by decide) h), fun h => f8 (hL'.old (by decide) h), fun h => f9 (hL'.old (by decide) h), fun h => f10 (hL'.old (by decide) h), fun h => f11 (hL'.old (by decide) h), fun h => f12 (hL'.old (by decide) h), fun h => f13 (hL'.old (by decide) h), fun h => f14 (hL'.old (by decide) h)⟩
      · cases (Option.some.inj (show some _ = some o from ho))
        obtain rfl := f1 (hdep { on := 1, ground := Ground.guard } (by simp) (by rfl))
        refine ⟨rfl, ?_⟩
        refine wp_load_row 24 (.tmp 5) rfl w3.heap.size rfl 24 L5 (0, 0) _ hG Tryd.under_h32 rfl (by rw [HL32.out]; exact Tryd.size_h32) ?_
        intro L' hL'
        exact ⟨x2, x15, _, _, x18, x19, x20, x21, x22, x23, x24, x25, x26, x27, x28, rfl, hb, hG, fun h => f0 (hL'.old (by decide) h), fun _ => rfl, fun _ => rfl, fun h => f3 (hL'.old (by decide) h), fun h => f4 (hL'.old (by decide) h), fun h => f5 (hL'.old (by decide) h), fun h => f6 (hL'.old (by decide) h), fun h => f7 (hL'.old (by decide) h), fun h => f8 (hL'.old (by decide) h), fun h => f9 (hL'.old (by decide) h), fun h => f10 (hL'.old (by decide) h), fun h => f11 (hL'.old (by decide) h), fun h => f12 (hL'.old (by decide) h), fun h => f13 (hL'.old (by decide) h), fun h => f14 (hL'.old (by decide) h)⟩
      · cases (Option.some.inj (show some _ = some o from ho))
        obtain rfl := f1 (hdep { on := 1, ground := Ground.guard } (by simp) (by rfl))
        refine ⟨rfl, ?_⟩
        generalize hKK : (fun (a' : Act) (w' : World) => ∀ L', More L 3 L' → SumLawInv w ao len cap s L5 w3.heap.size (.bool true) (.slice ao len cap) (.int .i64 (len : Int)) (.bool (decide ((1000 : Int) < len))) undef (.slice ao len cap) (.string s) (.slice ao len cap) (.agg L5) L' a' w') = KK
        go_simp
        rw [← hKK]
        intro L' hL'
        exact ⟨x2, x15, _, x17, _, x19, x20, x21, x22, x23, x24, x25, x26, x27, x28, rfl, hb, hG, fun h => f0 (hL'.old (by decide) h), fun _ => rfl, fun h => f2 (hL'.old (by decide) h), fun _ => rfl, fun h => f4 (hL'.old (by decide) h), fun h => f5 (hL'.old (by decide) h), fun h => f6 (hL'.old (by decide) h), fun h => f7 (hL'.old (by decide) h), fun h => f8 (hL'.old (by decide) h), fun h => f9 (hL'.old (by decide) h), fun h => f10 (hL'.old (by decide) h), fun h => f11 (hL'.old (by decide) h), fun h => f12 (hL'.old (by decide) h), fun h => f13 (hL'.old (by decide) h), fun h => f14 (hL'.old (by decide) h)⟩
      · cases (Option.some.inj (show some _ = some o from ho))
        obtain rfl := f3 (hdep { on := 3, ground := Ground.data } (by simp) (by rfl))
        obtain rfl := f1 (hdep { on := 1, ground := Ground.guard } (by simp) (by rfl))
        have kc := Lib.run_convert_string_bytes (P := Tryd.prog) w' 9 22 5 s Tryd.under_str Tryd.under_bs Tryd.under_u8
        refine ⟨rfl, ?_⟩
        generalize hKK : (fun (a' : Act) (w' : World) => ∀ L', More L 4 L' → SumLawInv w ao len cap s L5 w3.heap.size (.bool true) (.slice ao len cap) (.int .i64 (len : Int)) (.bool (decide ((1000 : Int) < len))) undef (.slice ao len cap) (.string s) (.slice ao len cap) (.agg L5) L' a' w') = KK
        go_simp
        rw [← hKK]
        intro L' hL'
        have hb2 := bytesW_below w' 5 s
        exact ⟨x2, x15, _, x17, _, _, x20, x21, x22, x23, x24, x25, x26, x27, x28, rfl, further hb hb2, stays hb2 hG, fun h => f0 (hL'.old (by decide) h), fun _ => rfl, fun h => f2 (hL'.old (by decide) h), fun _ => rfl, fun _ => ⟨_, _, rfl, lie_bytes w' s⟩, fun h => f5 (hL'.old (by decide) h), fun h => f6 (hL'.old (by decide) h), fun h => f7 (hL'.old (by decide) h), fun h => f8 (hL'.old (by decide) h), fun h => f9 (hL'.old (by decide) h), fun h => f10 (hL'.old (by decide) h), fun h => f11 (hL'.old (by decide) h), fun h => f12 (hL'.old (by decide) h), fun h => f13 (hL'.old (by decide) h), fun h => f14 (hL'.old (by decide) h)⟩
      · cases (Option.some.inj (show some _ = some o from ho))
        obtain rfl := f1 (hdep { on := 1, ground := Ground.guard } (by simp) (by rfl))
        obtain ⟨g, c, rfl, hlie⟩ := f4 (hdep { on := 4, ground := Ground.data } (by simp) (by rfl))
        have hX := refSum_any g 0 c (tx s) w' HSz.out (tx_bn s) hlie (HC.out.below hb)
        rw [tx_length, ← HL.out] at hX
        refine ⟨rfl, ?_⟩
        generalize hKK : (fun (a' : Act) (w' : World) => ∀ L', More L 5 L' → SumLawInv w ao len cap s L5 w3.heap.size (.bool true) (.slice ao len cap) (.int .i64 (len : Int)) (.bool (decide ((1000 : Int) < len))) undef (.slice ao len cap) (.string s) (.slice ao len cap) (.agg L5) L' a' w') = KK
        go_simp
        refine (hX).mono ?_
        rintro e w'' ⟨rfl, hb2⟩
        go_simp
        rw [← hKK]
        intro L' hL'
        exact ⟨x2, x15, _, x17, x18, _, _, x21, x22, x23, x24, x25, x26, x27, x28, rfl, further hb hb2, stays hb2 hG, fun h => f0 (hL'.old (by decide) h), fun _ => rfl, fun h => f2 (hL'.old (by decide) h), fun h => f3 (hL'.old (by decide) h), fun _ => ⟨g, c, rfl, hlie.below hb2⟩, fun _ => rfl, fun h => f6 (hL'.old (by decide) h), fun h => f7 (hL'.old (by decide) h), fun h => f8 (hL'.old (by decide) h), fun h => f9 (hL'.old (by decide) h), fun h => f10 (hL'.old (by decide) h), fun h => f11 (hL'.old (by decide) h), fun h => f12 (hL'.old (by decide) h), fun h => f13 (hL'.old (by decide) h), fun h => f14 (hL'.old (by decide) h)⟩
      · cases (Option.some.inj (show some _ = some o from ho))
        obtain rfl := f2 (hdep { on := 2, ground := Ground.data } (by simp) (by rfl))
        obtain rfl := f5 (hdep { on := 5, ground := Ground.data } (by simp) (by rfl))
        obtain rfl := f1 (hdep { on := 1, ground := Ground.guard } (by simp) (by rfl))
        have hq := HQ.out w'
        refine ⟨rfl, ?_⟩
        generalize hKK : (fun (a' : Act) (w' : World) => ∀ L', More L 6 L' → SumLawInv w ao len cap s L5 w3.heap.size (.bool true) (.slice ao len cap) (.int .i64 (len : Int)) (.bool (decide ((1000 : Int) < len))) undef (.slice ao len cap) (.string s) (.slice ao len cap) (.agg L5) L' a' w') = KK
        go_simp
        rw [← hKK]
        intro L' hL'
        exact ⟨x2, x15, _, _, x18, x19, _, _, x22, x23, x24, x25, x26, x27, x28, rfl, hb, hG, fun h => f0 (hL'.old (by decide) h), fun _ => rfl, fun _ => rfl, fun h => f3 (hL'.old (by decide) h), fun h => f4 (hL'.old (by decide) h), fun _ => rfl, fun _ => rfl, fun h => f7 (hL'.old (by decide) h), fun h => f8 (hL'.old (by decide) h), fun h => f9 (hL'.old (by decide) h), fun h => f10 (hL'.old (by decide) h), fun h => f11 (hL'.old (by decide) h), fun h => f12 (hL'.old (by decide) h), fun h => f13 (hL'.old (by decide) h), fun h => f14 (hL'.old (by decide) h)⟩
      · cases (Option.some.inj (show some _ = some o from ho))
        obtain rfl := f1 (hdep { on := 1, ground := Ground.data } (by simp) (by rfl))
        obtain rfl := f6 (hdep { on := 6, ground := Ground.data } (by simp) (by rfl))
        refine ⟨rfl, ?_⟩
        generalize hKK : (fun (a' : Act) (w' : World) => ∀ L', More L 7 L' → SumLawInv w ao len cap s L5 w3.heap.size (.bool true) (.slice ao len cap) (.int .i64 (len : Int)) (.bool (decide ((1000 : Int) < len))) undef (.slice ao len cap) (.string s) (.slice ao len cap) (.agg L5) L' a' w') = KK
        go_simp
        rw [← hKK]
        intro L' hL'
        exact ⟨x2, x15, _, x17, x18, x19, x20, _, _, x23, x24, x25, x26, x27, x28, rfl, hb, hG, fun h => f0 (hL'.old (by decide) h), fun _ => rfl, fun h => f2 (hL'.old (by decide) h), fun h => f3 (hL'.old (by decide) h), fun h => f4 (hL'.old (by decide) h), fun h => f5 (hL'.old (by decide) h), fun _ => rfl, fun _ => rfl, fun h => f8 (hL'.old (by decide) h), fun h => f9 (hL'.old (by decide) h), fun h => f10 (hL'.old (by decide) h), fun h => f11 (hL'.old (by decide) h), fun h => f12 (hL'.old (by decide) h), fun h => f13 (hL'.old (by decide) h), fun h => f14 (hL'.old (by decide) h)⟩
      · cases (Option.some.inj (show some _ = some o from ho))
        obtain rfl := f7 (hdep { on := 7, ground := Ground.data } (by simp) (by rfl))
        refine ⟨rfl, ?_⟩
        generalize hKK : (fun (a' : Act) (w' : World) => ∀ L', More L 8 L' → SumLawInv w ao len cap s L5 w3.heap.size (.bool true) (.slice ao len cap) (.int .i64 (len : Int)) (.bool (decide ((1000 : Int) < len))) undef (.slice ao len cap) (.string s) (.slice ao len cap) (.agg L5) L' a' w') = KK
        go_simp
        rw [← hKK]
        intro L' hL'
        exact ⟨x2, x15, x16, x17, x18, x19, x20, x21, _, _, x24, x25, x26, x27, x28, rfl, hb, hG, fun h => f0 (hL'.old (by decide) h), fun h => f1 (hL'.old (by decide) h), fun h => f2 (hL'.old (by decide) h), fun h => f3 (hL'.old (by decide) h), fun h => f4 (hL'.old (by decide) h), fun h => f5 (hL'.old (by decide) h), fun h => f6 (hL'.old (by decide) h), fun _ => rfl, fun _ => rfl, fun h => f9 (hL'.old (by decide) h), fun h => f10 (hL'.old (by decide) h), fun h => f11 (hL'.old (by decide) h), fun h => f12 (hL'.old (by decide) h), fun h => f13 (hL'.old (by decide) h), fun h => f14 (hL'.old (by decide) h)⟩
      · cases (Option.some.inj (show some _ = some o from ho))
        obtain rfl := f8 (hdep { on := 8, ground := Ground.guard } (by simp) (by rfl))
        refine ⟨rfl, ?_⟩
        generalize hKK : (fun (a' : Act) (w' : World) => ∀ L', More L 9 L' → SumLawInv w ao len cap s L5 w3.heap.size (.bool true) (.slice ao len cap) (.int .i64 (len : Int)) (.bool (decide ((1000 : Int) < len))) undef (.slice ao len cap) (.string s) (.slice ao len cap) (.agg L5) L' a' w') = KK
        go_simp
        rw [← hKK]
        intro L' hL'
        exact ⟨x2, x15, x16, x17, x18, x19, x20, x21, x22, _, _, x25, x26, x27, x28, rfl, hb, hG, fun h => f0 (hL'.old (by decide) h), fun h => f1 (hL'.old (by decide) h), fun h => f2 (hL'.old (by decide) h), fun h => f3 (hL'.old (by decide) h), fun h => f4 (hL'.old (by decide) h), fun h => f5 (hL'.old (by decide) h), fun h => f6 (hL'.old (by decide) h), fun h => f7 (hL'.old (by decide) h), fun _ => rfl, fun _ => rfl, fun h => f10 (hL'.old (by decide) h), fun h => f11 (hL'.old (by decide) h), fun h => f12 (hL'.old (by decide) h), fun h => f13 (hL'.old (by decide) h), fun h => f14 (hL'.old (by decide) h)⟩
      · cases (Option.some.inj (show some _ = some o from ho))
        obtain rfl := f9 (hdep { on := 9, ground := Ground.data } (by simp) (by rfl))
        obtain rfl := f8 (hdep { on := 8, ground := Ground.guard } (by simp) (by rfl))
        have hcv := HT.out w' hb
        refine ⟨rfl, ?_⟩
        generalize hKK : (fun (a' : Act) (w' : World) => ∀ L', More L 10 L' → SumLawInv w ao len cap s L5 w3.heap.size (.bool true) (.slice ao len cap) (.int .i64 (len : Int)) (.bool (decide ((1000 : Int) < len))) undef (.slice ao len cap) (.string s) (.slice ao len cap) (.agg L5) L' a' w') = KK
        go_simp
        rw [← hKK]
        intro L' hL'
        exact ⟨x2, x15, x16, x17, x18, x19, x20, x21, x22, _, _, _, x26, x27, x28, rfl, hb, hG, fun h => f0 (hL'.old (by decide) h), fun h => f1 (hL'.old (by decide) h), fun h => f2 (hL'.old (by decide) h), fun h => f3 (hL'.old (by decide) h), fun h => f4 (hL'.old (by decide) h), fun h => f5 (hL'.old (by decide) h), fun h => f6 (hL'.old (by decide) h), fun h => f7 (hL'.old (by decide) h), fun _ => rfl, fun _ => rfl, fun _ => rfl, fun h => f11 (hL'.old (by decide) h), fun h => f12 (hL'.old (by decide) h), fun h => f13 (hL'.old (by decide) h), fun h => f14 (hL'.old (by decide) h)⟩
      · cases (Option.some.inj (show some _ = some o from ho))
        obtain rfl := f8 (hdep { on := 8, ground := Ground.guard } (by simp) (by rfl))
        refine ⟨rfl, ?_⟩
        generalize hKK : (fun (a' : Act) (w' : World) => ∀ L', More L 11 L' → SumLawInv w ao len cap s L5 w3.heap.size (.bool true) (.slice ao len cap) (.int .i64 (len : Int)) (.bool (decide ((1000 : Int) < len))) undef (.slice ao len cap) (.string s) (.slice ao len cap) (.agg L5) L' a' w') = KK
        go_simp
        rw [← hKK]
        intro L' hL'
        exact ⟨x2, x15, x16, x17, x18, x19, x20, x21, x22, _, x24, x25, _, x27, x28, rfl, hb, hG, fun h => f0 (hL'.old (by decide) h), fun h => f1 (hL'.old (by decide) h), fun h => f2 (hL'.old (by decide) h), fun h => f3 (hL'.old (by decide) h), fun h => f4 (hL'.old (by decide) h), fun h => f5 (hL'.old (by decide) h), fun h => f6 (hL'.old (by decide) h), fun h => f7 (hL'.old (by decide) h), fun _ => rfl, fun h => f9 (hL'.old (by decide) h), fun h => f10 (hL'.old (by decide) h), fun _ => rfl, fun h => f12 (hL'.old (by decide) h), fun h => f13 (hL'.old (by decide) h), fun h => f14 (hL'.old (by decide) h)⟩
      · cases (Option.some.inj (show some _ = some o from ho))
        obtain rfl := f10 (hdep { on := 10, ground := Ground.data } (by simp) (by rfl))
        obtain rfl := f11 (hdep { on := 11, ground := Ground.data } (by simp) (by rfl))
        obtain rfl := f8 (hdep { on := 8, ground := Ground.guard } (by simp) (by rfl))
        have hss : (s.toList == s.toList) = true := beq_self_eq_true _
        refine ⟨rfl, ?_⟩
        generalize hKK : (fun (a' : Act) (w' : World) => ∀ L', More L 12 L' → SumLawInv w ao len cap s L5 w3.heap.size (.bool true) (.slice ao len cap) (.int .i64 (len : Int)) (.bool (decide ((1000 : Int) < len))) undef (.slice ao len cap) (.string s) (.slice ao len cap) (.agg L5) L' a' w') = KK
        go_simp
        rw [← hKK]
        intro L' hL'
        exact ⟨x2, x15, x16, x17, x18, x19, x20, x21, x22, _, x24, _, _, _, x28, rfl, hb, hG, fun h => f0 (hL'.old (by decide) h), fun h => f1 (hL'.old (by decide) h), fun h => f2 (hL'.old (by decide) h), fun h => f3 (hL'.old (by decide) h), fun h => f4 (hL'.old (by decide) h), fun h => f5 (hL'.old (by decide) h), fun h => f6 (hL'.old (by decide) h), fun h => f7 (hL'.old (by decide) h), fun _ => rfl, fun h => f9 (hL'.old (by decide) h), fun _ => rfl, fun _ => rfl, fun _ => rfl, fun h => f13 (hL'.old (by decide) h), fun h => f14 (hL'.old (by decide) h)⟩
      · cases (Option.some.inj (show some _ = some o from ho))
        obtain rfl := f8 (hdep { on := 8, ground := Ground.data } (by simp) (by rfl))
        obtain rfl := f12 (hdep { on := 12, ground := Ground.data } (by simp) (by rfl))
        refine ⟨rfl, ?_⟩
        generalize hKK : (fun (a' : Act) (w' : World) => ∀ L', More L 13 L' → SumLawInv w ao len cap s L5 w3.heap.size (.bool true) (.slice ao len cap) (.int .i64 (len : Int)) (.bool (decide ((1000 : Int) < len))) undef (.slice ao len cap) (.string s) (.slice ao len cap) (.agg L5) L' a' w') = KK
        go_simp
        rw [← hKK]
        intro L' hL'
        exact ⟨x2, x15, x16, x17, x18, x19, x20, x21, x22, _, x24, x25, x26, _, _, rfl, hb, hG, fun h => f0 (hL'.old (by decide) h), fun h => f1 (hL'.old (by decide) h), fun h => f2 (hL'.old (by decide) h), fun h => f3 (hL'.old (by decide) h), fun h => f4 (hL'.old (by decide) h), fun h => f5 (hL'.old (by decide) h), fun h => f6 (hL'.old (by decide) h), fun h => f7 (hL'.old (by decide) h), fun _ => rfl, fun h => f9 (hL'.old (by decide) h), fun h => f10 (hL'.old (by decide) h), fun h => f11 (hL'.old (by decide) h), fun _ => rfl, fun _ => rfl, fun h => f14 (hL'.old (by decide) h)⟩
      · cases (Option.some.inj (show some _ = some o from ho))
        obtain rfl := f13 (hdep { on := 13, ground := Ground.data } (by simp) (by rfl))
        refine ⟨rfl, ?_⟩
        generalize hKK : (fun (a' : Act) (w' : World) => ∀ L', More L 14 L' → SumLawInv w ao len cap s L5 w3.heap.size (.bool true) (.slice ao len cap) (.int .i64 (len : Int)) (.bool (decide ((1000 : Int) < len))) undef (.slice ao len cap) (.string s) (.slice ao len cap) (.agg L5) L' a' w') = KK
        go_simp
        rw [← hKK]
        intro L' hL'
        exact ⟨_, x15, x16, x17, x18, x19, x20, x21, x22, x23, x24, x25, x26, x27, _, rfl, hb, hG, fun h => f0 (hL'.old (by decide) h), fun h => f1 (hL'.old (by decide) h), fun h => f2 (hL'.old (by decide) h), fun h => f3 (hL'.old (by decide) h), fun h => f4 (hL'.old (by decide) h), fun h => f5 (hL'.old (by decide) h), fun h => f6 (hL'.old (by decide) h), fun h => f7 (hL'.old (by decide) h), fun h => f8 (hL'.old (by decide) h), fun h => f9 (hL'.old (by decide) h), fun h => f10 (hL'.old (by decide) h), fun h => f11 (hL'.old (by decide) h), fun h => f12 (hL'.old (by decide) h), fun _ => rfl, fun _ => rfl⟩
    · intro L a w' hall hI
      obtain ⟨x2, x15, x16, x17, x18, x19, x20, x21, x22, x23, x24, x25, x26, x27, x28, rfl, hb, hG, f0, f1, f2, f3, f4, f5, f6, f7, f8, f9, f10, f11, f12, f13, f14⟩ := hI
      obtain rfl := f14 (hall 14 (by decide))
      go_wp2_with fail
      go_ret
      exact ⟨rfl, hb⟩

end Go.Proofs.YtihljbephlpgcaaDoor
