/-
  gantry/hash.Sum.
-/
import Derived.Test.YtihljbephlpgcaaDoorHashK
namespace Go.Proofs.YtihljbephlpgcaaDoor
open Go.RowKit
open Go.Lib (hid)
open S

/-- A slice of bytes reads as these bytes for as long as its block is not changed. -/
def TextOf (w : World) (v : Value) (m : List Nat) : Prop := ∀ w', Below w.heap.size w w' → (convert 22 9 v).run Tryd.prog w' = .ok (.string (strN m)) w'

/-- The result's block of 32 bytes. -/
def Res32 (w w' : World) : Prop := ∃ Z, w'.heap[w.heap.size]? = some (.cells Z 24 (0, 0)) ∧ Z.size = 32
theorem Res32.keep {w w' w'' : World} (h : Res32 w w') (hb : Below w'.heap.size w' w'') : Res32 w w'' := by
  obtain ⟨Z, h1, h2⟩ := h
  exact ⟨Z, stays hb h1, h2⟩

def HSumInv (w : World) (m : List Nat) (v : Value) (L : Nat → Bool) (a : Act) (w' : World) : Prop :=
  ∃ x3 x4 x5 x6 x7 : Value, a = ⟨#[v, undef, .pointer (some ⟨w.heap.size, 0, none⟩), x3, x4, x5, x6, x7], []⟩ ∧ Below w.heap.size w w' ∧ Res32 w w' ∧
    (L 0 = true → x3 = streamV []) ∧ (L 1 = true → x4 = v) ∧ (L 2 = true → x5 = .string (strN m)) ∧ (L 3 = true → x6 = streamV m) ∧ (L 4 = true → x7 = .agg (bytesV (sha m))) ∧
    (L 5 = true → w'.heap[w.heap.size]? = some (.cells (bytesV (sha m)) 24 (0, 0)))

theorem sha_length (m : List Nat) : (sha m).length = 32 := rfl

set_option maxRecDepth 100000 in
set_option maxHeartbeats 3200000 in
theorem Sum_any (m : List Nat) (v : Value) (w : World) (hB : Bn m) (hlen : m.length ≤ 576460752303423488) (hv : TextOf w v m) (hK : KR w) :
    Calls Tryd.prog 11 #[v] w fun e w' => e = .returned (.agg (bytesV (sha m))) ∧ Below w.heap.size w w' := by
  have HBn := hid hB
  have HLen := hid hlen
  have HK := hid hK
  have HV := hid hv
  clear hB hlen hK hv
  go_enter Tryd.func11, Tryd.ntmps11
  go_upto_region 1 with fail
  go_cut [] (fun wx => Below w.heap.size w wx ∧ wx.heap[w.heap.size]? = some (.cells (bytesV (sha m)) 24 (0, 0)))
  case first =>
    rename_i hJ hM
    have HSt := hid (show Res32 w (w.alloc (.cells #[.int .u8 0, .int .u8 0, .int .u8 0, .int .u8 0, .int .u8 0, .int .u8 0, .int .u8 0, .int .u8 0, .int .u8 0, .int .u8 0, .int .u8 0, .int .u8 0, .int .u8 0, .int .u8 0, .int .u8 0, .int .u8 0, .int .u8 0, .int .u8 0, .int .u8 0, .int .u8 0, .int .u8 0, .int .u8 0, .int .u8 0, .int .u8 0, .int .u8 0, .int .u8 0, .int .u8 0, .int .u8 0, .int .u8 0, .int .u8 0, .int .u8 0, .int .u8 0] 24)) from ⟨_, heap_alloc_new w _, rfl⟩)
    have HSb := hid (show Below w.heap.size w (w.alloc (.cells #[.int .u8 0, .int .u8 0, .int .u8 0, .int .u8 0, .int .u8 0, .int .u8 0, .int .u8 0, .int .u8 0, .int .u8 0, .int .u8 0, .int .u8 0, .int .u8 0, .int .u8 0, .int .u8 0, .int .u8 0, .int .u8 0, .int .u8 0, .int .u8 0, .int .u8 0, .int .u8 0, .int .u8 0, .int .u8 0, .int .u8 0, .int .u8 0, .int .u8 0, .int .u8 0, .int .u8 0, .int .u8 0, .int .u8 0, .int .u8 0, .int .u8 0, .int .u8 0] 24)) from (Below.refl _ _).alloc (Nat.le_refl _) _)
    generalize w.alloc (.cells #[.int .u8 0, .int .u8 0, .int .u8 0, .int .u8 0, .int .u8 0, .int .u8 0, .int .u8 0, .int .u8 0, .int .u8 0, .int .u8 0, .int .u8 0, .int .u8 0, .int .u8 0, .int .u8 0, .int .u8 0, .int .u8 0, .int .u8 0, .int .u8 0, .int .u8 0, .int .u8 0, .int .u8 0, .int .u8 0, .int .u8 0, .int .u8 0, .int .u8 0, .int .u8 0, .int .u8 0, .int .u8 0, .int .u8 0, .int .u8 0, .int .u8 0, .int .u8 0] 24) = w0 at HSt HSb ⊢
    refine wp_region_inv (by kernel_rfl) (HSumInv w m v) (by kernel_rfl) ?_ ?_ ?_
    · intro L hL
      refine ⟨undef, undef, undef, undef, undef, rfl, HSb.out.drew, HSt.out.keep (Below.drew (Below.refl _ _)), ?_⟩
      refine ⟨?_, ?_, ?_, ?_, ?_, ?_⟩ <;> (intro h; rw [hL] at h; cases h)
    · intro L a w' i o ho hLi hdep hI
      obtain ⟨x3, x4, x5, x6, x7, rfl, hb, hR, f0, f1, f2, f3, f4, f5⟩ := hI
      have hi : i < 6 := (Array.getElem?_eq_some_iff.1 ho).1
      rcases (show i = 0 ∨ i = 1 ∨ i = 2 ∨ i = 3 ∨ i = 4 ∨ i = 5 by omega) with rfl | rfl | rfl | rfl | rfl | rfl
      · cases (Option.some.inj (show some _ = some o from ho))
        refine ⟨rfl, ?_⟩
        generalize hKK : (fun (a' : Act) (w' : World) => ∀ L', More L 0 L' → HSumInv w m v L' a' w') = KK
        go_simp
        refine (Begin_any w').mono ?_
        rintro e w'' ⟨rfl, hb2⟩
        go_simp
        rw [← hKK]
        intro L' hL'
        exact ⟨_, x4, x5, x6, x7, rfl, further hb hb2, hR.keep hb2, fun _ => rfl, fun h => f1 (hL'.old (by decide) h), fun h => f2 (hL'.old (by decide) h), fun h => f3 (hL'.old (by decide) h), fun h => f4 (hL'.old (by decide) h), fun h => stays hb2 (f5 (hL'.old (by decide) h))⟩
      · cases (Option.some.inj (show some _ = some o from ho))
        refine ⟨rfl, ?_⟩
        generalize hKK : (fun (a' : Act) (w' : World) => ∀ L', More L 1 L' → HSumInv w m v L' a' w') = KK
        go_simp
        rw [← hKK]
        intro L' hL'
        exact ⟨x3, _, x5, x6, x7, rfl, hb, hR, fun h => f0 (hL'.old (by decide) h), fun _ => rfl, fun h => f2 (hL'.old (by decide) h), fun h => f3 (hL'.old (by decide) h), fun h => f4 (hL'.old (by decide) h), fun h => f5 (hL'.old (by decide) h)⟩
      · cases (Option.some.inj (show some _ = some o from ho))
        refine ⟨rfl, ?_⟩
        generalize hKK : (fun (a' : Act) (w' : World) => ∀ L', More L 2 L' → HSumInv w m v L' a' w') = KK
        obtain rfl := f1 (hdep { on := 1, ground := Ground.data } (by simp) (by rfl))
        have hcv := HV.out w' hb
        go_simp
        rw [← hKK]
        intro L' hL'
        exact ⟨x3, _, _, x6, x7, rfl, hb, hR, fun h => f0 (hL'.old (by decide) h), fun _ => rfl, fun _ => rfl, fun h => f3 (hL'.old (by decide) h), fun h => f4 (hL'.old (by decide) h), fun h => f5 (hL'.old (by decide) h)⟩
      · cases (Option.some.inj (show some _ = some o from ho))
        refine ⟨rfl, ?_⟩
        generalize hKK : (fun (a' : Act) (w' : World) => ∀ L', More L 3 L' → HSumInv w m v L' a' w') = KK
        obtain rfl := f0 (hdep { on := 0, ground := Ground.data } (by simp) (by rfl))
        obtain rfl := f2 (hdep { on := 2, ground := Ground.data } (by simp) (by rfl))
        have hAdd := Add_any [] (strN m) w' (fun x h => by cases h) (by have := HLen.out; rw [strN_size]; simp; omega) (HK.out.below hb)
        rw [tx_strN _ HBn.out, List.nil_append] at hAdd
        go_simp
        refine hAdd.mono ?_
        rintro e w'' ⟨rfl, hb2⟩
        go_simp
        rw [← hKK]
        intro L' hL'
        exact ⟨_, x4, _, _, x7, rfl, further hb hb2, hR.keep hb2, fun _ => rfl, fun h => f1 (hL'.old (by decide) h), fun _ => rfl, fun _ => rfl, fun h => f4 (hL'.old (by decide) h), fun h => stays hb2 (f5 (hL'.old (by decide) h))⟩
      · cases (Option.some.inj (show some _ = some o from ho))
        refine ⟨rfl, ?_⟩
        generalize hKK : (fun (a' : Act) (w' : World) => ∀ L', More L 4 L' → HSumInv w m v L' a' w') = KK
        obtain rfl := f3 (hdep { on := 3, ground := Ground.data } (by simp) (by rfl))
        go_simp
        refine (StreamSum_any m w' HBn.out HLen.out (HK.out.below hb)).mono ?_
        rintro e w'' ⟨rfl, hb2⟩
        go_simp
        rw [← hKK]
        intro L' hL'
        exact ⟨x3, x4, x5, _, _, rfl, further hb hb2, hR.keep hb2, fun h => f0 (hL'.old (by decide) h), fun h => f1 (hL'.old (by decide) h), fun h => f2 (hL'.old (by decide) h), fun _ => rfl, fun _ => rfl, fun h => stays hb2 (f5 (hL'.old (by decide) h))⟩
      · cases (Option.some.inj (show some _ = some o from ho))
        refine ⟨rfl, ?_⟩
        obtain rfl := f4 (hdep { on := 4, ground := Ground.data } (by simp) (by rfl))
        obtain ⟨Z, z1, z2⟩ := hR
        have h32 : (bytesV (sha m)).size = 32 := by rw [bytesV_size]; rfl
        refine wp_store_row 24 (.tmp 2) (.tmp 7) rfl w.heap.size (bytesV (sha m)) rfl rfl 24 Z z1 (by rw [h32]; exact Tryd.size_h32) (by rw [h32, z2]) (bytesV_one _) ?_
        intro L' hL'
        have hrow := setRow_heap w' w.heap.size Z (bytesV (sha m)) _ _ z1
        exact ⟨x3, x4, x5, x6, _, rfl, below_setRow hb (Nat.le_refl _) _, ⟨_, hrow, h32⟩, fun h => f0 (hL'.old (by decide) h), fun h => f1 (hL'.old (by decide) h), fun h => f2 (hL'.old (by decide) h), fun h => f3 (hL'.old (by decide) h), fun _ => rfl, fun _ => hrow⟩
    · intro L a w' hall hI
      obtain ⟨x3, x4, x5, x6, x7, rfl, hb, hR, f0, f1, f2, f3, f4, f5⟩ := hI
      refine hM _ _ (hJ _ _ ?_)
      (repeat apply Exists.intro)
      exact ⟨⟨hb, f5 (hall 5 (by decide))⟩, rfl⟩
  case rest =>
    obtain ⟨hb, hend⟩ := hcut
    obtain ⟨L, hLL⟩ : ∃ L, L = bytesV (sha m) := ⟨_, rfl⟩
    rw [← hLL] at hend
    have hL32 : L.size = 32 := by rw [hLL, bytesV_size]; rfl
    have HL := hid hLL
    have HL32 := hid hL32
    have HB := hid hb
    clear hLL hL32 hb
    go_wp2_with fail
    refine bodyPost_ret (results_cell_row rfl _ _ w.heap.size 24 L (0, 0) _ rfl hend Tryd.under_h32 rfl (by rw [HL32.out]; exact Tryd.size_h32)) rfl ?_
    exact ⟨by rw [HL.out], HB.out⟩

end Go.Proofs.YtihljbephlpgcaaDoor
