/-
  The walk of the law HashOfMatchesSpec.
-/
import Derived.Test.YtihljbephlpgcaaDoorHashV
import Derived.Test.YtihljbephlpgcaaDoorHashWS
import Derived.Test.YtihljbephlpgcaaDoorHashRL
namespace Go.Proofs.YtihljbephlpgcaaDoor
open Go.RowKit
open Go.Lib (hid)
open S

theorem and255 (n : Int) : bits .and .i64 n 255 = n % 256 := by
  have h255 : (BitVec.ofInt 64 255).toNat = 2 ^ 8 - 1 := by decide
  have key : (BitVec.ofInt 64 n &&& BitVec.ofInt 64 255).toNat = (n % ((2 ^ 64 : Nat) : Int)).toNat % 2 ^ 8 := by
    rw [BitVec.toNat_and, BitVec.toNat_ofInt, h255, Nat.and_two_pow_sub_one_eq_mod]
  show IntKind.i64.wrap ((BitVec.ofInt 64 n &&& BitVec.ofInt 64 255).toNat : Nat) = n % 256
  rw [key, IntKind.wrap_i64]
  omega
theorem ofN_mod (tag : Int) (ss : List ByteArray) : ofN (tag % 256) ss = ofN tag ss := by
  have e : tagN (tag % 256) = tagN tag := by unfold tagN; rw [Int.emod_emod_of_dvd tag (by decide)]
  unfold ofN ofIn
  rw [e]
theorem eqlD (l : List Nat) (h : l.length = 16) (w : World) : (Op.equalIn 10000 44 (.agg (bytesV l)) (.agg (bytesV l))).run Tryd.prog w = .ok true w := by
  obtain ⟨ds, hds⟩ : ∃ ds : List Int, ds = l.map fun x : Nat => (x : Int) := ⟨_, rfl⟩
  have e1 : bytesV l = (ds.map (Value.int .u8)).toArray := by rw [hds]; simp [bytesV]
  have hl : ds.length = 16 := by rw [hds]; simpa using h
  rw [e1]
  obtain ⟨i0, hi, _, hz1, _⟩ := info_parts Tryd.info_u8
  have hc : Tryd.prog.cellsOf 5 = 1 := by kernel_rfl
  have e := run_equalIn_array (P := Tryd.prog) w 9999 (ds.map (Value.int .u8)).toArray (ds.map (Value.int .u8)).toArray Tryd.under_d16 hi
  rw [hc, eqItems_selfN ds w (List.range 16) (fun i hi => by rw [hl]; exact List.mem_range.1 hi)] at e
  exact e
theorem ofN_length (tag : Int) (ss : List ByteArray) : (ofN tag ss).length = 16 := by rw [ofN, List.length_take, sha_length]; rfl

/-- While the law's last answer is made. -/
def OfLawInv (w : World) (tag : Int) (ao : Option Addr) (n : Nat) (cap : Nat) (D : Array Value) (g6 : Nat) (u7 : Value) (u8 : Value) (u9 : Value) (u10 : Value) (u11 : Value) (u12 : Value) (u13 : Value) (u14 : Value) (L : Nat → Bool) (a : Act) (w' : World) : Prop :=
  ∃ x4 x15 x16 x17 x18 x19 x20 x21 x22 x23 x24 x25 x26 x27 x28 x29 x30 : Value, a = ⟨#[.int .i64 tag, .slice ao n cap, undef, undef, x4, .bool true, .pointer (some ⟨g6, 0, none⟩), u7, u8, u9, u10, u11, u12, u13, u14, x15, x16, x17, x18, x19, x20, x21, x22, x23, x24, x25, x26, x27, x28, x29, x30], []⟩ ∧ Below w.heap.size w w' ∧ w'.heap[g6]? = some (.cells D 44 (0, 0)) ∧
    (L 0 = true → x15 = .bool true) ∧
    (L 1 = true → x16 = .bool true) ∧
    (L 2 = true → x17 = .agg D) ∧
    (L 3 = true → x18 = .int .i64 tag) ∧
    (L 4 = true → x19 = .slice ao n cap) ∧
    (L 5 = true → x20 = .agg D) ∧
    (L 6 = true → x21 = .bool true) ∧
    (L 7 = true → x22 = .bool true) ∧
    (L 8 = true → x23 = .bool true) ∧
    (L 9 = true → x24 = .agg D) ∧
    (L 10 = true → x25 = .int .i64 tag) ∧
    (L 11 = true → x26 = .int .i64 (tag % 256)) ∧
    (L 12 = true → x27 = .slice ao n cap) ∧
    (L 13 = true → x28 = .agg D) ∧
    (L 14 = true → x29 = .bool true) ∧
    (L 15 = true → x30 = .bool true) ∧
    (L 16 = true → x4 = .bool true)

set_option maxRecDepth 100000 in
set_option maxHeartbeats 3200000 in
theorem walkOf (tag : Int) (ao : Option Addr) (cap : Nat) (ss : List ByteArray) (w : World) (hp : Parts w ao ss) (hl : ss.length ≤ 9223372036854775807) (HC' : KC w) (HK' : KR w) :
    Calls Tryd.prog 7 #[.int .i64 tag, .slice ao ss.length cap] w fun e w' => e = .returned (.bool true) ∧ Below w.heap.size w w' := by
  have HC := hid HC'
  have HK := hid HK'
  have HP := hid hp
  have HFew := hid fun W h => Few_any ao cap ss W h hl
  have HRef := hid fun W (hW : Below w.heap.size w W) hf => refOf_any tag ao cap ss W (hp.below hW) hf (HC'.below hW)
  have HOf := hid fun t W (hW : Below w.heap.size w W) (hf : FewP ss) => Of_any t ao cap ss W (hp.below hW) (Nat.le_trans hf.1 (by decide)) (fun s hs => Nat.le_trans (hf.2 s hs) (by decide)) (HK'.below hW)
  obtain ⟨n, hn⟩ : ∃ n, n = ss.length := ⟨_, rfl⟩
  rw [← hn] at HFew HRef HOf ⊢
  clear hn hp HC' HK' hl
  go_enter Tryd.func7, Tryd.ntmps7
  go_wp2_with fail
  refine (sanity_any w HK.out).mono ?_
  rintro e w1 ⟨rfl, hb1⟩
  have HB1 := hid hb1
  clear hb1
  go_wp2_with fail
  refine (HFew.out w1 (HP.out.below HB1.out)).mono ?_
  rintro e w2 ⟨rfl, rfl⟩
  by_cases hfew : FewP ss
  · rw [decide_eq_true hfew]
    obtain ⟨D, hD⟩ : ∃ D, D = bytesV (ofN tag ss) := ⟨_, rfl⟩
    have HD := hid hD
    have HD16 := hid (show D.size = 16 by rw [hD, bytesV_size, ofN_length])
    have HQ := hid (show ∀ W, (Op.equalIn 10000 44 (.agg D) (.agg D)).run Tryd.prog W = .ok true W by rw [hD]; exact fun W => eqlD _ (ofN_length _ _) W)
    have HA := hid (and255 tag)
    have HR := hid fun W (hW : Below w.heap.size w W) => HRef.out W hW hfew
    have HO1 := hid fun W (hW : Below w.heap.size w W) => HOf.out tag W hW hfew
    have HO := hid fun W (hW : Below w.heap.size w W) => HOf.out (tag % 256) W hW hfew
    rw [ofN_mod] at HO
    rw [← hD] at HR HO1 HO
    clear hD hfew HFew HRef HOf
    go_wp2_with fail
    refine (HO1.out w1 HB1.out).mono ?_
    rintro e w3 ⟨rfl, hb3⟩
    have HB3 := hid (further HB1.out hb3)
    clear hb3 HB1 HO1
    go_wp2_with (with_reducible refine wpList_store_at rfl 44 (.tmp 6) (.tmp 14) rfl w3.heap.size 0 D rfl rfl _ 44 (heap_alloc_new w3 _) ?s1 ?s2 ?s3 ?_)
    case s1 => rw [HD16.out]; exact Tryd.size_d16
    case s2 => rw [HD16.out]; exact Nat.le_refl _
    case s3 => rw [HD.out]; exact bytesV_one _
    intro w4 F1 F2 F3 F4
    have HG := hid (show w4.heap[w3.heap.size]? = some (.cells D 44 (0, 0)) by
      rw [F1.out, splice_all64 (by show 16 = D.toList.length; rw [Array.length_toList, HD16.out])])
    have HB4 := hid (below_same (HB3.out.alloc HB3.out.size _) HB3.out.size F2.out (F3.out.trans (by simp)) F4.out)
    clear F1 F2 F3 F4 HB3
    go_wp2_with fail
    refine wp_region_invG (by kernel_rfl) (OfLawInv w tag ao n cap D w3.heap.size (.bool true) (.slice ao n cap) (.bool true) (.bool false) undef (.int .i64 tag) (.slice ao n cap) (.agg D)) (by kernel_rfl) ?_ ?_ ?_
    · intro L hL
      refine ⟨_, _, _, _, _, _, _, _, _, _, _, _, _, _, _, _, _, rfl, HB4.out.drew, HG.out, ?_⟩
      refine ⟨?_, ?_, ?_, ?_, ?_, ?_, ?_, ?_, ?_, ?_, ?_, ?_, ?_, ?_, ?_, ?_, ?_⟩ <;> (intro h; rw [hL] at h; cases h)
    · intro L a w' i o ho hLi hdep hI
      obtain ⟨x4, x15, x16, x17, x18, x19, x20, x21, x22, x23, x24, x25, x26, x27, x28, x29, x30, rfl, hb, hG, f0, f1, f2, f3, f4, f5, f6, f7, f8, f9, f10, f11, f12, f13, f14, f15, f16⟩ := hI
      have hi : i < 17 := (Array.getElem?_eq_some_iff.1 ho).1
      rcases (show i = 0 ∨ i = 1 ∨ i = 2 ∨ i = 3 ∨ i = 4 ∨ i = 5 ∨ i = 6 ∨ i = 7 ∨ i = 8 ∨ i = 9 ∨ i = 10 ∨ i = 11 ∨ i = 12 ∨ i = 13 ∨ i = 14 ∨ i = 15 ∨ i = 16 by omega) with rfl | rfl | rfl | rfl | rfl | rfl | rfl | rfl | rfl | rfl | rfl | rfl | rfl | rfl | rfl | rfl | rfl
      · cases (Option.some.inj (show some _ = some o from ho))
        refine ⟨rfl, ?_⟩
        generalize hKK : (fun (a' : Act) (w' : World) => ∀ L', More L 0 L' → OfLawInv w tag ao n cap D w3.heap.size (.bool true) (.slice ao n cap) (.bool true) (.bool false) undef (.int .i64 tag) (.slice ao n cap) (.agg D) L' a' w') = KK
        go_simp
        rw [← hKK]
        intro L' hL'
        exact ⟨x4, _, x16, x17, x18, x19, x20, x21, x22, x23, x24, x25, x26, x27, x28, x29, x30, rfl, hb, hG, fun _ => rfl, fun h => f1 (hL'.old (by decide) h), fun h => f2 (hL'.old (by decide) h), fun h => f3 (hL'.old (by decide) h), fun h => f4 (hL'.old (by decide) h), fun h => f5 (hL'.old (by decide) h), fun h => f6 (hL'.old (by decide) h), fun h => f7 (hL'.old (by decide) h), fun h => f8 (hL'.old (by decide) h), fun h => f9 (hL'.old (by decide) h), fun h => f10 (hL'.old (by decide) h), fun h => f11 (hL'.old (by decide) h), fun h => f12 (hL'.old (by decide) h), fun h => f13 (hL'.old (by decide) h), fun h => f14 (hL'.old (by decide) h), fun h => f15 (hL'.old (by decide) h), fun h => f16 (hL'.old (by decide) h)⟩
      · cases (Option.some.inj (show some _ = some o from ho))
        obtain rfl := f0 (hdep { on := 0, ground := Ground.data } (by simp) (by rfl))
        refine ⟨rfl, ?_⟩
        generalize hKK : (fun (a' : Act) (w' : World) => ∀ L', More L 1 L' → OfLawInv w tag ao n cap D w3.heap.size (.bool true) (.slice ao n cap) (.bool true) (.bool false) undef (.int .i64 tag) (.slice ao n cap) (.agg D) L' a' w') = KK
        go_simp
        rw [← hKK]
        intro L' hL'
        exact ⟨x4, _, _, x17, x18, x19, x20, x21, x22, x23, x24, x25, x26, x27, x28, x29, x30, rfl, hb, hG, fun _ => rfl, fun _ => rfl, fun h => f2 (hL'.old (by decide) h), fun h => f3 (hL'.old (by decide) h), fun h => f4 (hL'.old (by decide) h), fun h => f5 (hL'.old (by decide) h), fun h => f6 (hL'.old (by decide) h), fun h => f7 (hL'.old (by decide) h), fun h => f8 (hL'.old (by decide) h), fun h => f9 (hL'.old (by decide) h), fun h => f10 (hL'.old (by decide) h), fun h => f11 (hL'.old (by decide) h), fun h => f12 (hL'.old (by decide) h), fun h => f13 (hL'.old (by decide) h), fun h => f14 (hL'.old (by decide) h), fun h => f15 (hL'.old (by decide) h), fun h => f16 (hL'.old (by decide) h)⟩
      · cases (Option.some.inj (show some _ = some o from ho))
        obtain rfl := f1 (hdep { on := 1, ground := Ground.guard } (by simp) (by rfl))
        refine ⟨rfl, ?_⟩
        refine wp_load_row 44 (.tmp 6) rfl w3.heap.size rfl 44 D (0, 0) _ hG Tryd.under_d16 rfl (by rw [HD16.out]; exact Tryd.size_d16) ?_
        intro L' hL'
        exact ⟨x4, x15, _, _, x18, x19, x20, x21, x22, x23, x24, x25, x26, x27, x28, x29, x30, rfl, hb, hG, fun h => f0 (hL'.old (by decide) h), fun _ => rfl, fun _ => rfl, fun h => f3 (hL'.old (by decide) h), fun h => f4 (hL'.old (by decide) h), fun h => f5 (hL'.old (by decide) h), fun h => f6 (hL'.old (by decide) h), fun h => f7 (hL'.old (by decide) h), fun h => f8 (hL'.old (by decide) h), fun h => f9 (hL'.old (by decide) h), fun h => f10 (hL'.old (by decide) h), fun h => f11 (hL'.old (by decide) h), fun h => f12 (hL'.old (by decide) h), fun h => f13 (hL'.old (by decide) h), fun h => f14 (hL'.old (by decide) h), fun h => f15 (hL'.old (by decide) h), fun h => f16 (hL'.old (by decide) h)⟩
      · cases (Option.some.inj (show some _ = some o from ho))
        obtain rfl := f1 (hdep { on := 1, ground := Ground.guard } (by simp) (by rfl))
        refine ⟨rfl, ?_⟩
        generalize hKK : (fun (a' : Act) (w' : World) => ∀ L', More L 3 L' → OfLawInv w tag ao n cap D w3.heap.size (.bool true) (.slice ao n cap) (.bool true) (.bool false) undef (.int .i64 tag) (.slice ao n cap) (.agg D) L' a' w') = KK
        go_simp
        rw [← hKK]
        intro L' hL'
        exact ⟨x4, x15, _, x17, _, x19, x20, x21, x22, x23, x24, x25, x26, x27, x28, x29, x30, rfl, hb, hG, fun h => f0 (hL'.old (by decide) h), fun _ => rfl, fun h => f2 (hL'.old (by decide) h), fun _ => rfl, fun h => f4 (hL'.old (by decide) h), fun h => f5 (hL'.old (by decide) h), fun h => f6 (hL'.old (by decide) h), fun h => f7 (hL'.old (by decide) h), fun h => f8 (hL'.old (by decide) h), fun h => f9 (hL'.old (by decide) h), fun h => f10 (hL'.old (by decide) h), fun h => f11 (hL'.old (by decide) h), fun h => f12 (hL'.old (by decide) h), fun h => f13 (hL'.old (by decide) h), fun h => f14 (hL'.old (by decide) h), fun h => f15 (hL'.old (by decide) h), fun h => f16 (hL'.old (by decide) h)⟩
      · cases (Option.some.inj (show some _ = some o from ho))
        obtain rfl := f1 (hdep { on := 1, ground := Ground.guard } (by simp) (by rfl))
        refine ⟨rfl, ?_⟩
        generalize hKK : (fun (a' : Act) (w' : World) => ∀ L', More L 4 L' → OfLawInv w tag ao n cap D w3.heap.size (.bool true) (.slice ao n cap) (.bool true) (.bool false) undef (.int .i64 tag) (.slice ao n cap) (.agg D) L' a' w') = KK
        go_simp
        rw [← hKK]
        intro L' hL'
        exact ⟨x4, x15, _, x17, x18, _, x20, x21, x22, x23, x24, x25, x26, x27, x28, x29, x30, rfl, hb, hG, fun h => f0 (hL'.old (by decide) h), fun _ => rfl, fun h => f2 (hL'.old (by decide) h), fun h => f3 (hL'.old (by decide) h), fun _ => rfl, fun h => f5 (hL'.old (by decide) h), fun h => f6 (hL'.old (by decide) h), fun h => f7 (hL'.old (by decide) h), fun h => f8 (hL'.old (by decide) h), fun h => f9 (hL'.old (by decide) h), fun h => f10 (hL'.old (by decide) h), fun h => f11 (hL'.old (by decide) h), fun h => f12 (hL'.old (by decide) h), fun h => f13 (hL'.old (by decide) h), fun h => f14 (hL'.old (by decide) h), fun h => f15 (hL'.old (by decide) h), fun h => f16 (hL'.old (by decide) h)⟩
      · cases (Option.some.inj (show some _ = some o from ho))
        obtain rfl := f3 (hdep { on := 3, ground := Ground.data } (by simp) (by rfl))
        obtain rfl := f4 (hdep { on := 4, ground := Ground.data } (by simp) (by rfl))
        obtain rfl := f1 (hdep { on := 1, ground := Ground.guard } (by simp) (by rfl))
        have hX := HR.out w' hb
        refine ⟨rfl, ?_⟩
        generalize hKK : (fun (a' : Act) (w' : World) => ∀ L', More L 5 L' → OfLawInv w tag ao n cap D w3.heap.size (.bool true) (.slice ao n cap) (.bool true) (.bool false) undef (.int .i64 tag) (.slice ao n cap) (.agg D) L' a' w') = KK
        go_simp
        refine (hX).mono ?_
        rintro e w'' ⟨rfl, hb2⟩
        go_simp
        rw [← hKK]
        intro L' hL'
        exact ⟨x4, x15, _, x17, _, _, _, x21, x22, x23, x24, x25, x26, x27, x28, x29, x30, rfl, further hb hb2, stays hb2 hG, fun h => f0 (hL'.old (by decide) h), fun _ => rfl, fun h => f2 (hL'.old (by decide) h), fun _ => rfl, fun _ => rfl, fun _ => rfl, fun h => f6 (hL'.old (by decide) h), fun h => f7 (hL'.old (by decide) h), fun h => f8 (hL'.old (by decide) h), fun h => f9 (hL'.old (by decide) h), fun h => f10 (hL'.old (by decide) h), fun h => f11 (hL'.old (by decide) h), fun h => f12 (hL'.old (by decide) h), fun h => f13 (hL'.old (by decide) h), fun h => f14 (hL'.old (by decide) h), fun h => f15 (hL'.old (by decide) h), fun h => f16 (hL'.old (by decide) h)⟩
      · cases (Option.some.inj (show some _ = some o from ho))
        obtain rfl := f2 (hdep { on := 2, ground := Ground.data } (by simp) (by rfl))
        obtain rfl := f5 (hdep { on := 5, ground := Ground.data } (by simp) (by rfl))
        obtain rfl := f1 (hdep { on := 1, ground := Ground.guard } (by simp) (by rfl))
        have hq := HQ.out w'
        refine ⟨rfl, ?_⟩
        generalize hKK : (fun (a' : Act) (w' : World) => ∀ L', More L 6 L' → OfLawInv w tag ao n cap D w3.heap.size (.bool true) (.slice ao n cap) (.bool true) (.bool false) undef (.int .i64 tag) (.slice ao n cap) (.agg D) L' a' w') = KK
        go_simp
        rw [← hKK]
        intro L' hL'
        exact ⟨x4, x15, _, _, x18, x19, _, _, x22, x23, x24, x25, x26, x27, x28, x29, x30, rfl, hb, hG, fun h => f0 (hL'.old (by decide) h), fun _ => rfl, fun _ => rfl, fun h => f3 (hL'.old (by decide) h), fun h => f4 (hL'.old (by decide) h), fun _ => rfl, fun _ => rfl, fun h => f7 (hL'.old (by decide) h), fun h => f8 (hL'.old (by decide) h), fun h => f9 (hL'.old (by decide) h), fun h => f10 (hL'.old (by decide) h), fun h => f11 (hL'.old (by decide) h), fun h => f12 (hL'.old (by decide) h), fun h => f13 (hL'.old (by decide) h), fun h => f14 (hL'.old (by decide) h), fun h => f15 (hL'.old (by decide) h), fun h => f16 (hL'.old (by decide) h)⟩
      · cases (Option.some.inj (show some _ = some o from ho))
        obtain rfl := f1 (hdep { on := 1, ground := Ground.data } (by simp) (by rfl))
        obtain rfl := f6 (hdep { on := 6, ground := Ground.data } (by simp) (by rfl))
        refine ⟨rfl, ?_⟩
        generalize hKK : (fun (a' : Act) (w' : World) => ∀ L', More L 7 L' → OfLawInv w tag ao n cap D w3.heap.size (.bool true) (.slice ao n cap) (.bool true) (.bool false) undef (.int .i64 tag) (.slice ao n cap) (.agg D) L' a' w') = KK
        go_simp
        rw [← hKK]
        intro L' hL'
        exact ⟨x4, x15, _, x17, x18, x19, x20, _, _, x23, x24, x25, x26, x27, x28, x29, x30, rfl, hb, hG, fun h => f0 (hL'.old (by decide) h), fun _ => rfl, fun h => f2 (hL'.old (by decide) h), fun h => f3 (hL'.old (by decide) h), fun h => f4 (hL'.old (by decide) h), fun h => f5 (hL'.old (by decide) h), fun _ => rfl, fun _ => rfl, fun h => f8 (hL'.old (by decide) h), fun h => f9 (hL'.old (by decide) h), fun h => f10 (hL'.old (by decide) h), fun h => f11 (hL'.old (by decide) h), fun h => f12 (hL'.old (by decide) h), fun h => f13 (hL'.old (by decide) h), fun h => f14 (hL'.old (by decide) h), fun h => f15 (hL'.old (by decide) h), fun h => f16 (hL'.old (by decide) h)⟩
      · cases (Option.some.inj (show some _ = some o from ho))
        obtain rfl := f7 (hdep { on := 7, ground := Ground.data } (by simp) (by rfl))
        refine ⟨rfl, ?_⟩
        generalize hKK : (fun (a' : Act) (w' : World) => ∀ L', More L 8 L' → OfLawInv w tag ao n cap D w3.heap.size (.bool true) (.slice ao n cap) (.bool true) (.bool false) undef (.int .i64 tag) (.slice ao n cap) (.agg D) L' a' w') = KK
        go_simp
        rw [← hKK]
        intro L' hL'
        exact ⟨x4, x15, x16, x17, x18, x19, x20, x21, _, _, x24, x25, x26, x27, x28, x29, x30, rfl, hb, hG, fun h => f0 (hL'.old (by decide) h), fun h => f1 (hL'.old (by decide) h), fun h => f2 (hL'.old (by decide) h), fun h => f3 (hL'.old (by decide) h), fun h => f4 (hL'.old (by decide) h), fun h => f5 (hL'.old (by decide) h), fun h => f6 (hL'.old (by decide) h), fun _ => rfl, fun _ => rfl, fun h => f9 (hL'.old (by decide) h), fun h => f10 (hL'.old (by decide) h), fun h => f11 (hL'.old (by decide) h), fun h => f12 (hL'.old (by decide) h), fun h => f13 (hL'.old (by decide) h), fun h => f14 (hL'.old (by decide) h), fun h => f15 (hL'.old (by decide) h), fun h => f16 (hL'.old (by decide) h)⟩
      · cases (Option.some.inj (show some _ = some o from ho))
        obtain rfl := f8 (hdep { on := 8, ground := Ground.guard } (by simp) (by rfl))
        refine ⟨rfl, ?_⟩
        refine wp_load_row 44 (.tmp 6) rfl w3.heap.size rfl 44 D (0, 0) _ hG Tryd.under_d16 rfl (by rw [HD16.out]; exact Tryd.size_d16) ?_
        intro L' hL'
        exact ⟨x4, x15, x16, x17, x18, x19, x20, x21, x22, _, _, x25, x26, x27, x28, x29, x30, rfl, hb, hG, fun h => f0 (hL'.old (by decide) h), fun h => f1 (hL'.old (by decide) h), fun h => f2 (hL'.old (by decide) h), fun h => f3 (hL'.old (by decide) h), fun h => f4 (hL'.old (by decide) h), fun h => f5 (hL'.old (by decide) h), fun h => f6 (hL'.old (by decide) h), fun h => f7 (hL'.old (by decide) h), fun _ => rfl, fun _ => rfl, fun h => f10 (hL'.old (by decide) h), fun h => f11 (hL'.old (by decide) h), fun h => f12 (hL'.old (by decide) h), fun h => f13 (hL'.old (by decide) h), fun h => f14 (hL'.old (by decide) h), fun h => f15 (hL'.old (by decide) h), fun h => f16 (hL'.old (by decide) h)⟩
      · cases (Option.some.inj (show some _ = some o from ho))
        obtain rfl := f8 (hdep { on := 8, ground := Ground.guard } (by simp) (by rfl))
        refine ⟨rfl, ?_⟩
        generalize hKK : (fun (a' : Act) (w' : World) => ∀ L', More L 10 L' → OfLawInv w tag ao n cap D w3.heap.size (.bool true) (.slice ao n cap) (.bool true) (.bool false) undef (.int .i64 tag) (.slice ao n cap) (.agg D) L' a' w') = KK
        go_simp
        rw [← hKK]
        intro L' hL'
        exact ⟨x4, x15, x16, x17, x18, x19, x20, x21, x22, _, x24, _, x26, x27, x28, x29, x30, rfl, hb, hG, fun h => f0 (hL'.old (by decide) h), fun h => f1 (hL'.old (by decide) h), fun h => f2 (hL'.old (by decide) h), fun h => f3 (hL'.old (by decide) h), fun h => f4 (hL'.old (by decide) h), fun h => f5 (hL'.old (by decide) h), fun h => f6 (hL'.old (by decide) h), fun h => f7 (hL'.old (by decide) h), fun _ => rfl, fun h => f9 (hL'.old (by decide) h), fun _ => rfl, fun h => f11 (hL'.old (by decide) h), fun h => f12 (hL'.old (by decide) h), fun h => f13 (hL'.old (by decide) h), fun h => f14 (hL'.old (by decide) h), fun h => f15 (hL'.old (by decide) h), fun h => f16 (hL'.old (by decide) h)⟩
      · cases (Option.some.inj (show some _ = some o from ho))
        obtain rfl := f10 (hdep { on := 10, ground := Ground.data } (by simp) (by rfl))
        obtain rfl := f8 (hdep { on := 8, ground := Ground.guard } (by simp) (by rfl))
        have ha := HA.out
        refine ⟨rfl, ?_⟩
        generalize hKK : (fun (a' : Act) (w' : World) => ∀ L', More L 11 L' → OfLawInv w tag ao n cap D w3.heap.size (.bool true) (.slice ao n cap) (.bool true) (.bool false) undef (.int .i64 tag) (.slice ao n cap) (.agg D) L' a' w') = KK
        go_simp
        rw [← hKK]
        intro L' hL'
        exact ⟨x4, x15, x16, x17, x18, x19, x20, x21, x22, _, x24, _, _, x27, x28, x29, x30, rfl, hb, hG, fun h => f0 (hL'.old (by decide) h), fun h => f1 (hL'.old (by decide) h), fun h => f2 (hL'.old (by decide) h), fun h => f3 (hL'.old (by decide) h), fun h => f4 (hL'.old (by decide) h), fun h => f5 (hL'.old (by decide) h), fun h => f6 (hL'.old (by decide) h), fun h => f7 (hL'.old (by decide) h), fun _ => rfl, fun h => f9 (hL'.old (by decide) h), fun _ => rfl, fun _ => rfl, fun h => f12 (hL'.old (by decide) h), fun h => f13 (hL'.old (by decide) h), fun h => f14 (hL'.old (by decide) h), fun h => f15 (hL'.old (by decide) h), fun h => f16 (hL'.old (by decide) h)⟩
      · cases (Option.some.inj (show some _ = some o from ho))
        obtain rfl := f8 (hdep { on := 8, ground := Ground.guard } (by simp) (by rfl))
        refine ⟨rfl, ?_⟩
        generalize hKK : (fun (a' : Act) (w' : World) => ∀ L', More L 12 L' → OfLawInv w tag ao n cap D w3.heap.size (.bool true) (.slice ao n cap) (.bool true) (.bool false) undef (.int .i64 tag) (.slice ao n cap) (.agg D) L' a' w') = KK
        go_simp
        rw [← hKK]
        intro L' hL'
        exact ⟨x4, x15, x16, x17, x18, x19, x20, x21, x22, _, x24, x25, x26, _, x28, x29, x30, rfl, hb, hG, fun h => f0 (hL'.old (by decide) h), fun h => f1 (hL'.old (by decide) h), fun h => f2 (hL'.old (by decide) h), fun h => f3 (hL'.old (by decide) h), fun h => f4 (hL'.old (by decide) h), fun h => f5 (hL'.old (by decide) h), fun h => f6 (hL'.old (by decide) h), fun h => f7 (hL'.old (by decide) h), fun _ => rfl, fun h => f9 (hL'.old (by decide) h), fun h => f10 (hL'.old (by decide) h), fun h => f11 (hL'.old (by decide) h), fun _ => rfl, fun h => f13 (hL'.old (by decide) h), fun h => f14 (hL'.old (by decide) h), fun h => f15 (hL'.old (by decide) h), fun h => f16 (hL'.old (by decide) h)⟩
      · cases (Option.some.inj (show some _ = some o from ho))
        obtain rfl := f11 (hdep { on := 11, ground := Ground.data } (by simp) (by rfl))
        obtain rfl := f12 (hdep { on := 12, ground := Ground.data } (by simp) (by rfl))
        obtain rfl := f8 (hdep { on := 8, ground := Ground.guard } (by simp) (by rfl))
        have hX := HO.out w' hb
        refine ⟨rfl, ?_⟩
        generalize hKK : (fun (a' : Act) (w' : World) => ∀ L', More L 13 L' → OfLawInv w tag ao n cap D w3.heap.size (.bool true) (.slice ao n cap) (.bool true) (.bool false) undef (.int .i64 tag) (.slice ao n cap) (.agg D) L' a' w') = KK
        go_simp
        refine (hX).mono ?_
        rintro e w'' ⟨rfl, hb2⟩
        go_simp
        rw [← hKK]
        intro L' hL'
        exact ⟨x4, x15, x16, x17, x18, x19, x20, x21, x22, _, x24, x25, _, _, _, x29, x30, rfl, further hb hb2, stays hb2 hG, fun h => f0 (hL'.old (by decide) h), fun h => f1 (hL'.old (by decide) h), fun h => f2 (hL'.old (by decide) h), fun h => f3 (hL'.old (by decide) h), fun h => f4 (hL'.old (by decide) h), fun h => f5 (hL'.old (by decide) h), fun h => f6 (hL'.old (by decide) h), fun h => f7 (hL'.old (by decide) h), fun _ => rfl, fun h => f9 (hL'.old (by decide) h), fun h => f10 (hL'.old (by decide) h), fun _ => rfl, fun _ => rfl, fun _ => rfl, fun h => f14 (hL'.old (by decide) h), fun h => f15 (hL'.old (by decide) h), fun h => f16 (hL'.old (by decide) h)⟩
      · cases (Option.some.inj (show some _ = some o from ho))
        obtain rfl := f9 (hdep { on := 9, ground := Ground.data } (by simp) (by rfl))
        obtain rfl := f13 (hdep { on := 13, ground := Ground.data } (by simp) (by rfl))
        obtain rfl := f8 (hdep { on := 8, ground := Ground.guard } (by simp) (by rfl))
        have hq := HQ.out w'
        refine ⟨rfl, ?_⟩
        generalize hKK : (fun (a' : Act) (w' : World) => ∀ L', More L 14 L' → OfLawInv w tag ao n cap D w3.heap.size (.bool true) (.slice ao n cap) (.bool true) (.bool false) undef (.int .i64 tag) (.slice ao n cap) (.agg D) L' a' w') = KK
        go_simp
        rw [← hKK]
        intro L' hL'
        exact ⟨x4, x15, x16, x17, x18, x19, x20, x21, x22, _, _, x25, x26, x27, _, _, x30, rfl, hb, hG, fun h => f0 (hL'.old (by decide) h), fun h => f1 (hL'.old (by decide) h), fun h => f2 (hL'.old (by decide) h), fun h => f3 (hL'.old (by decide) h), fun h => f4 (hL'.old (by decide) h), fun h => f5 (hL'.old (by decide) h), fun h => f6 (hL'.old (by decide) h), fun h => f7 (hL'.old (by decide) h), fun _ => rfl, fun _ => rfl, fun h => f10 (hL'.old (by decide) h), fun h => f11 (hL'.old (by decide) h), fun h => f12 (hL'.old (by decide) h), fun _ => rfl, fun _ => rfl, fun h => f15 (hL'.old (by decide) h), fun h => f16 (hL'.old (by decide) h)⟩
      · cases (Option.some.inj (show some _ = some o from ho))
        obtain rfl := f8 (hdep { on := 8, ground := Ground.data } (by simp) (by rfl))
        obtain rfl := f14 (hdep { on := 14, ground := Ground.data } (by simp) (by rfl))
        refine ⟨rfl, ?_⟩
        generalize hKK : (fun (a' : Act) (w' : World) => ∀ L', More L 15 L' → OfLawInv w tag ao n cap D w3.heap.size (.bool true) (.slice ao n cap) (.bool true) (.bool false) undef (.int .i64 tag) (.slice ao n cap) (.agg D) L' a' w') = KK
        go_simp
        rw [← hKK]
        intro L' hL'
        exact ⟨x4, x15, x16, x17, x18, x19, x20, x21, x22, _, x24, x25, x26, x27, x28, _, _, rfl, hb, hG, fun h => f0 (hL'.old (by decide) h), fun h => f1 (hL'.old (by decide) h), fun h => f2 (hL'.old (by decide) h), fun h => f3 (hL'.old (by decide) h), fun h => f4 (hL'.old (by decide) h), fun h => f5 (hL'.old (by decide) h), fun h => f6 (hL'.old (by decide) h), fun h => f7 (hL'.old (by decide) h), fun _ => rfl, fun h => f9 (hL'.old (by decide) h), fun h => f10 (hL'.old (by decide) h), fun h => f11 (hL'.old (by decide) h), fun h => f12 (hL'.old (by decide) h), fun h => f13 (hL'.old (by decide) h), fun _ => rfl, fun _ => rfl, fun h => f16 (hL'.old (by decide) h)⟩
      · cases (Option.some.inj (show some _ = some o from ho))
        obtain rfl := f15 (hdep { on := 15, ground := Ground.data } (by simp) (by rfl))
        refine ⟨rfl, ?_⟩
        generalize hKK : (fun (a' : Act) (w' : World) => ∀ L', More L 16 L' → OfLawInv w tag ao n cap D w3.heap.size (.bool true) (.slice ao n cap) (.bool true) (.bool false) undef (.int .i64 tag) (.slice ao n cap) (.agg D) L' a' w') = KK
        go_simp
        rw [← hKK]
        intro L' hL'
        exact ⟨_, x15, x16, x17, x18, x19, x20, x21, x22, x23, x24, x25, x26, x27, x28, x29, _, rfl, hb, hG, fun h => f0 (hL'.old (by decide) h), fun h => f1 (hL'.old (by decide) h), fun h => f2 (hL'.old (by decide) h), fun h => f3 (hL'.old (by decide) h), fun h => f4 (hL'.old (by decide) h), fun h => f5 (hL'.old (by decide) h), fun h => f6 (hL'.old (by decide) h), fun h => f7 (hL'.old (by decide) h), fun h => f8 (hL'.old (by decide) h), fun h => f9 (hL'.old (by decide) h), fun h => f10 (hL'.old (by decide) h), fun h => f11 (hL'.old (by decide) h), fun h => f12 (hL'.old (by decide) h), fun h => f13 (hL'.old (by decide) h), fun h => f14 (hL'.old (by decide) h), fun _ => rfl, fun _ => rfl⟩
    · intro L a w' hall hI
      obtain ⟨x4, x15, x16, x17, x18, x19, x20, x21, x22, x23, x24, x25, x26, x27, x28, x29, x30, rfl, hb, hG, f0, f1, f2, f3, f4, f5, f6, f7, f8, f9, f10, f11, f12, f13, f14, f15, f16⟩ := hI
      obtain rfl := f16 (hall 16 (by decide))
      go_wp2_with fail
      go_ret
      exact ⟨rfl, hb⟩
  · rw [decide_eq_false hfew]
    clear HFew
    go_wp2_with fail
    go_ret
    exact ⟨rfl, HB1.out⟩

end Go.Proofs.YtihljbephlpgcaaDoor
