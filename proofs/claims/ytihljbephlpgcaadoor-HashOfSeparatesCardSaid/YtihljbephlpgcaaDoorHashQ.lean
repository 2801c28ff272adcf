/-
  gantry/gantrylaw02.hex: the hexadecimal digits of a text.
-/
import Derived.Test.YtihljbephlpgcaaDoorHashO
import Derived.Test.YtihljbephlpgcaaDoorHashP
import Derived.StillTailTactics
namespace Go.Proofs.YtihljbephlpgcaaDoor
open Go.RowKit
open Go.Lib (hid)
open S

def hexDigits : ByteArray := ⟨#[48, 49, 50, 51, 52, 53, 54, 55, 56, 57, 97, 98, 99, 100, 101, 102]⟩
def hexDig (i : Nat) : Nat := [48, 49, 50, 51, 52, 53, 54, 55, 56, 57, 97, 98, 99, 100, 101, 102].getD i 0
def hexN (l : List Nat) : List Nat := l.flatMap fun x => [hexDig (x / 16), hexDig (x % 16)]
theorem hexN_length (l : List Nat) : (hexN l).length = 2 * l.length := by
  induction l with
  | nil => rfl
  | cons x l ih => rw [hexN, List.flatMap_cons, List.length_append, ← hexN, ih]; simp; omega
theorem hexN_snoc (l : List Nat) (x : Nat) : bc (hexN l) ++ [Value.int .u8 (hexDig (x / 16) : Nat), Value.int .u8 (hexDig (x % 16) : Nat)] = bc (hexN (l ++ [x])) := by
  simp [hexN, bc]
theorem hex_index (i : Nat) (h : i < 16) (w : World) : (Instr.index 9 (.string ⟨#[48, 49, 50, 51, 52, 53, 54, 55, 56, 57, 97, 98, 99, 100, 101, 102]⟩) (.int .u8 (i : Int))).run Tryd.prog w = .ok (.int .u8 (hexDig i : Nat)) w := by
  rw [run_index_string (P := Tryd.prog) w 9 _ .u8 (i : Int) Tryd.under_str, dif_pos ⟨by omega, by show (i : Int) < 16; omega⟩]
  rcases (show i = 0 ∨ i = 1 ∨ i = 2 ∨ i = 3 ∨ i = 4 ∨ i = 5 ∨ i = 6 ∨ i = 7 ∨ i = 8 ∨ i = 9 ∨ i = 10 ∨ i = 11 ∨ i = 12 ∨ i = 13 ∨ i = 14 ∨ i = 15 by omega) with rfl | rfl | rfl | rfl | rfl | rfl | rfl | rfl | rfl | rfl | rfl | rfl | rfl | rfl | rfl | rfl <;> rfl

theorem two_cells {w : World} {g : Nat} {a b : Value} {T : TypeId} (h : w.heap[g]? = some (.cells #[a, b] T (0, 0))) : ∀ j u, [a, b][j]? = some u → w.cell? ((⟨g, 0, none⟩ : Addr).add j) = some u := by
  intro j u hu
  rw [Addr.add_lit, Nat.zero_add, cell_of_row _ _ _ _ _ _ h]
  simpa using hu
theorem two_ints (p q : Int) : ∀ u ∈ [Value.int .u8 p, Value.int .u8 q], u.oneCell' = true := by
  intro u hu
  rcases List.mem_cons.1 hu with rfl | hu
  · rfl
  · rw [List.mem_singleton.1 hu]; rfl

/-- While two digits are appended. -/
def HexInv (w : World) (s : ByteArray) (k x q r : Nat) (row : List Value) (u4 u10 u11 : Value) (L : Nat → Bool) (a : Act) (w' : World) : Prop :=
  ∃ x4 x12 x13 x14 x15 x16 x17 x18 x19 x20 x21 x22 x23 x24 x25 x26 : Value, a = ⟨#[.string s, undef, .string ⟨#[]⟩, .string ⟨#[48, 49, 50, 51, 52, 53, 54, 55, 56, 57, 97, 98, 99, 100, 101, 102]⟩, x4, .int .i64 (k : Int), .int .i64 (k : Int), .string s, .int .i64 (s.size : Int), .bool true, u10, u11, x12, x13, x14, x15, x16, x17, x18, x19, x20, x21, x22, x23, x24, x25, x26, undef, undef], []⟩ ∧ Below w.heap.size w w' ∧ (L 14 = false → w'.ownsRow w.heap.size 5 1 u4 (2 * k) row) ∧ (L 15 = false → x4 = u4) ∧ (L 15 = true → L 0 = true) ∧ (L 14 = true → L 13 = true) ∧ (L 15 = true → L 14 = true) ∧
    (L 0 = true → x12 = u4) ∧ (L 1 = true → x13 = .string ⟨#[48, 49, 50, 51, 52, 53, 54, 55, 56, 57, 97, 98, 99, 100, 101, 102]⟩) ∧ (L 2 = true → x14 = .string s) ∧ (L 3 = true → x15 = .int .i64 (k : Int)) ∧ (L 4 = true → x16 = .int .u8 (x : Int)) ∧ (L 5 = true → x17 = .int .u8 (q : Int)) ∧ (L 6 = true → x18 = .int .u8 (hexDig q : Nat)) ∧ (L 7 = true → x19 = .string ⟨#[48, 49, 50, 51, 52, 53, 54, 55, 56, 57, 97, 98, 99, 100, 101, 102]⟩) ∧ (L 8 = true → x20 = .string s) ∧ (L 9 = true → x21 = .int .i64 (k : Int)) ∧ (L 10 = true → x22 = .int .u8 (x : Int)) ∧ (L 11 = true → x23 = .int .u8 (r : Int)) ∧ (L 12 = true → x24 = .int .u8 (hexDig r : Nat)) ∧
    (L 13 = true → L 14 = false → ∃ g, x25 = .slice (some ⟨g, 0, none⟩) 2 2 ∧ w'.heap[g]? = some (.cells #[.int .u8 (hexDig q : Nat), .int .u8 (hexDig r : Nat)] 5 (0, 0))) ∧
    (L 14 = true → w'.ownsRow w.heap.size 5 1 x26 (2 * k + 2) (row ++ [.int .u8 (hexDig q : Nat), .int .u8 (hexDig r : Nat)])) ∧ (L 15 = true → x4 = x26)

set_option maxRecDepth 100000 in
set_option maxHeartbeats 3200000 in
theorem hex_any (s : ByteArray) (h0 : 0 < s.size) (hs : s.size ≤ 1000) (w : World) :
    Calls Tryd.prog 25 #[.string s] w fun e w' => e = .returned (.string (strN (hexN (tx s)))) ∧ Below w.heap.size w w' := by
  obtain ⟨i0, hi, hz0, hz1, hz2⟩ := info_parts Tryd.info_u8
  have HT := hid (tx_length s)
  go_enter Tryd.func25, Tryd.ntmps25
  go_wp2_with fail
  go_loopw [4, 5] (fun v i wr => ∃ k : Nat, k ≤ s.size ∧ i = .int .i64 k ∧ wr.ownsRow w.heap.size 5 1 v (2 * k) (bc (hexN ((tx s).take k))) ∧ Below w.heap.size w wr) (fun _ i _ => s.size - (intOf i).toNat)
  case atStart => exact ⟨0, by omega, rfl, ⟨rfl, .inl ⟨rfl, rfl⟩⟩, Below.refl _ _⟩
  case round =>
    obtain ⟨k, hk, rfl, hown, hb⟩ := hrel
    by_cases hk8 : k < s.size
    · obtain ⟨x, hx⟩ : ∃ x, x = (tx s).getD k 0 := ⟨_, rfl⟩
      have hxl : x < 256 := by rw [hx]; exact bn_getD (tx_bn s) k
      have ia := fun W => index_str s k hk8 W
      rw [← hx] at ia
      obtain ⟨q, hq⟩ : ∃ q, q = x / 16 := ⟨_, rfl⟩
      obtain ⟨r, hr⟩ : ∃ r, r = x % 16 := ⟨_, rfl⟩
      have e1 : (x : Int) / 16 = (q : Int) := by omega
      have e2 : (x : Int).tmod 16 = (r : Int) := by rw [Int.tmod_eq_emod_of_nonneg (by omega)]; omega
      have i1 := fun W => hex_index q (by omega) W
      have i2 := fun W => hex_index r (by omega) W
      have ew1 : IntKind.u8.wrap (q : Int) = (q : Int) := by rw [IntKind.wrap_u8']; omega
      have HX := hid hx
      have HQ := hid hq
      have HR := hid hr
      have HO := hid hown
      have HB := hid hb
      clear hx hq hr hown hb
      go_upto_region 6 with fail
      obtain ⟨row, hrw⟩ : ∃ row, row = bc (hexN ((tx s).take k)) := ⟨_, rfl⟩
      have HRw := hid hrw
      have HO1 := hid (show wr.ownsRow w.heap.size 5 1 u4 (2 * k) row by rw [hrw]; exact HO.out)
      clear hrw
      refine wp_region_inv (by kernel_rfl) (HexInv w s k x q r row u4 u10 u11) (by kernel_rfl) ?_ ?_ ?_
      · intro L hL
        refine ⟨u4, u12, u13, u14, u15, u16, u17, u18, u19, u20, u21, u22, u23, u24, u25, u26, rfl, HB.out.drew, fun _ => HO1.out, fun _ => rfl, ?_⟩
        refine ⟨?_, ?_, ?_, ?_, ?_, ?_, ?_, ?_, ?_, ?_, ?_, ?_, ?_, ?_, ?_, ?_, ?_, ?_, ?_⟩ <;> (intro h; rw [hL] at h; cases h)
      · intro L a w' i o ho hLi hdep hI
        obtain ⟨x4, x12, x13, x14, x15, x16, x17, x18, x19, x20, x21, x22, x23, x24, x25, x26, rfl, hb, fo, f4u, f150, f1413, f1514, f0, f1, f2, f3, f4, f5, f6, f7, f8, f9, f10, f11, f12, f13, f14, f15⟩ := hI
        have hi16 : i < 16 := (Array.getElem?_eq_some_iff.1 ho).1
        rcases (show i = 0 ∨ i = 1 ∨ i = 2 ∨ i = 3 ∨ i = 4 ∨ i = 5 ∨ i = 6 ∨ i = 7 ∨ i = 8 ∨ i = 9 ∨ i = 10 ∨ i = 11 ∨ i = 12 ∨ i = 13 ∨ i = 14 ∨ i = 15 by omega) with rfl | rfl | rfl | rfl | rfl | rfl | rfl | rfl | rfl | rfl | rfl | rfl | rfl | rfl | rfl | rfl
        · cases (Option.some.inj (show some _ = some o from ho))
          refine ⟨rfl, ?_⟩
          generalize hKK : (fun (a' : Act) (w' : World) => ∀ L', More L 0 L' → HexInv w s k x q r row u4 u10 u11 L' a' w') = KK
          have h15 : L 15 = false := by
            cases h : L 15 with
            | false => rfl
            | true => rw [f150 h] at hLi; cases hLi
          obtain rfl := f4u h15
          go_simp
          rw [← hKK]
          intro L' hL'
          exact ⟨_, _, x13, x14, x15, x16, x17, x18, x19, x20, x21, x22, x23, x24, x25, x26, rfl, hb, fun h => fo (by rw [hL' 14] at h; simpa using h), fun _ => rfl, fun h => by rw [hL' 0]; simp, fun h => by rw [hL' 13]; simp [f1413 (hL'.old (by decide) h)], fun h => by rw [hL' 14]; simp [f1514 (hL'.old (by decide) h)], fun _ => rfl, fun h => f1 (hL'.old (by decide) h), fun h => f2 (hL'.old (by decide) h), fun h => f3 (hL'.old (by decide) h), fun h => f4 (hL'.old (by decide) h), fun h => f5 (hL'.old (by decide) h), fun h => f6 (hL'.old (by decide) h), fun h => f7 (hL'.old (by decide) h), fun h => f8 (hL'.old (by decide) h), fun h => f9 (hL'.old (by decide) h), fun h => f10 (hL'.old (by decide) h), fun h => f11 (hL'.old (by decide) h), fun h => f12 (hL'.old (by decide) h), fun h h2 => f13 (hL'.old (by decide) h) (by rw [hL' 14] at h2; simpa using h2), fun h => f14 (hL'.old (by decide) h), fun h => by rw [hL' 15, h15] at h; simp at h⟩
        · cases (Option.some.inj (show some _ = some o from ho))
          refine ⟨rfl, ?_⟩
          generalize hKK : (fun (a' : Act) (w' : World) => ∀ L', More L 1 L' → HexInv w s k x q r row u4 u10 u11 L' a' w') = KK
          go_simp
          rw [← hKK]
          intro L' hL'
          exact ⟨x4, x12, _, x14, x15, x16, x17, x18, x19, x20, x21, x22, x23, x24, x25, x26, rfl, hb, fun h => fo (by rw [hL' 14] at h; simpa using h), fun h => f4u (by rw [hL' 15] at h; simpa using h), fun h => by rw [hL' 0]; simp [f150 (hL'.old (by decide) h)], fun h => by rw [hL' 13]; simp [f1413 (hL'.old (by decide) h)], fun h => by rw [hL' 14]; simp [f1514 (hL'.old (by decide) h)], fun h => f0 (hL'.old (by decide) h), fun _ => rfl, fun h => f2 (hL'.old (by decide) h), fun h => f3 (hL'.old (by decide) h), fun h => f4 (hL'.old (by decide) h), fun h => f5 (hL'.old (by decide) h), fun h => f6 (hL'.old (by decide) h), fun h => f7 (hL'.old (by decide) h), fun h => f8 (hL'.old (by decide) h), fun h => f9 (hL'.old (by decide) h), fun h => f10 (hL'.old (by decide) h), fun h => f11 (hL'.old (by decide) h), fun h => f12 (hL'.old (by decide) h), fun h h2 => f13 (hL'.old (by decide) h) (by rw [hL' 14] at h2; simpa using h2), fun h => f14 (hL'.old (by decide) h), fun h => f15 (hL'.old (by decide) h)⟩
        · cases (Option.some.inj (show some _ = some o from ho))
          refine ⟨rfl, ?_⟩
          generalize hKK : (fun (a' : Act) (w' : World) => ∀ L', More L 2 L' → HexInv w s k x q r row u4 u10 u11 L' a' w') = KK
          go_simp
          rw [← hKK]
          intro L' hL'
          exact ⟨x4, x12, x13, _, x15, x16, x17, x18, x19, x20, x21, x22, x23, x24, x25, x26, rfl, hb, fun h => fo (by rw [hL' 14] at h; simpa using h), fun h => f4u (by rw [hL' 15] at h; simpa using h), fun h => by rw [hL' 0]; simp [f150 (hL'.old (by decide) h)], fun h => by rw [hL' 13]; simp [f1413 (hL'.old (by decide) h)], fun h => by rw [hL' 14]; simp [f1514 (hL'.old (by decide) h)], fun h => f0 (hL'.old (by decide) h), fun h => f1 (hL'.old (by decide) h), fun _ => rfl, fun h => f3 (hL'.old (by decide) h), fun h => f4 (hL'.old (by decide) h), fun h => f5 (hL'.old (by decide) h), fun h => f6 (hL'.old (by decide) h), fun h => f7 (hL'.old (by decide) h), fun h => f8 (hL'.old (by decide) h), fun h => f9 (hL'.old (by decide) h), fun h => f10 (hL'.old (by decide) h), fun h => f11 (hL'.old (by decide) h), fun h => f12 (hL'.old (by decide) h), fun h h2 => f13 (hL'.old (by decide) h) (by rw [hL' 14] at h2; simpa using h2), fun h => f14 (hL'.old (by decide) h), fun h => f15 (hL'.old (by decide) h)⟩
        · cases (Option.some.inj (show some _ = some o from ho))
          refine ⟨rfl, ?_⟩
          generalize hKK : (fun (a' : Act) (w' : World) => ∀ L', More L 3 L' → HexInv w s k x q r row u4 u10 u11 L' a' w') = KK
          go_simp
          rw [← hKK]
          intro L' hL'
          exact ⟨x4, x12, x13, x14, _, x16, x17, x18, x19, x20, x21, x22, x23, x24, x25, x26, rfl, hb, fun h => fo (by rw [hL' 14] at h; simpa using h), fun h => f4u (by rw [hL' 15] at h; simpa using h), fun h => by rw [hL' 0]; simp [f150 (hL'.old (by decide) h)], fun h => by rw [hL' 13]; simp [f1413 (hL'.old (by decide) h)], fun h => by rw [hL' 14]; simp [f1514 (hL'.old (by decide) h)], fun h => f0 (hL'.old (by decide) h), fun h => f1 (hL'.old (by decide) h), fun h => f2 (hL'.old (by decide) h), fun _ => rfl, fun h => f4 (hL'.old (by decide) h), fun h => f5 (hL'.old (by decide) h), fun h => f6 (hL'.old (by decide) h), fun h => f7 (hL'.old (by decide) h), fun h => f8 (hL'.old (by decide) h), fun h => f9 (hL'.old (by decide) h), fun h => f10 (hL'.old (by decide) h), fun h => f11 (hL'.old (by decide) h), fun h => f12 (hL'.old (by decide) h), fun h h2 => f13 (hL'.old (by decide) h) (by rw [hL' 14] at h2; simpa using h2), fun h => f14 (hL'.old (by decide) h), fun h => f15 (hL'.old (by decide) h)⟩
        · cases (Option.some.inj (show some _ = some o from ho))
          refine ⟨rfl, ?_⟩
          generalize hKK : (fun (a' : Act) (w' : World) => ∀ L', More L 4 L' → HexInv w s k x q r row u4 u10 u11 L' a' w') = KK
          obtain rfl := f2 (hdep { on := 2, ground := Ground.data } (by simp) (by rfl))
          obtain rfl := f3 (hdep { on := 3, ground := Ground.data } (by simp) (by rfl))
          go_simp
          rw [← hKK]
          intro L' hL'
          exact ⟨x4, x12, x13, _, _, _, x17, x18, x19, x20, x21, x22, x23, x24, x25, x26, rfl, hb, fun h => fo (by rw [hL' 14] at h; simpa using h), fun h => f4u (by rw [hL' 15] at h; simpa using h), fun h => by rw [hL' 0]; simp [f150 (hL'.old (by decide) h)], fun h => by rw [hL' 13]; simp [f1413 (hL'.old (by decide) h)], fun h => by rw [hL' 14]; simp [f1514 (hL'.old (by decide) h)], fun h => f0 (hL'.old (by decide) h), fun h => f1 (hL'.old (by decide) h), fun _ => rfl, fun _ => rfl, fun _ => rfl, fun h => f5 (hL'.old (by decide) h), fun h => f6 (hL'.old (by decide) h), fun h => f7 (hL'.old (by decide) h), fun h => f8 (hL'.old (by decide) h), fun h => f9 (hL'.old (by decide) h), fun h => f10 (hL'.old (by decide) h), fun h => f11 (hL'.old (by decide) h), fun h => f12 (hL'.old (by decide) h), fun h h2 => f13 (hL'.old (by decide) h) (by rw [hL' 14] at h2; simpa using h2), fun h => f14 (hL'.old (by decide) h), fun h => f15 (hL'.old (by decide) h)⟩
        · cases (Option.some.inj (show some _ = some o from ho))
          refine ⟨rfl, ?_⟩
          generalize hKK : (fun (a' : Act) (w' : World) => ∀ L', More L 5 L' → HexInv w s k x q r row u4 u10 u11 L' a' w') = KK
          obtain rfl := f4 (hdep { on := 4, ground := Ground.data } (by simp) (by rfl))
          go_simp
          rw [← hKK]
          intro L' hL'
          exact ⟨x4, x12, x13, x14, x15, _, _, x18, x19, x20, x21, x22, x23, x24, x25, x26, rfl, hb, fun h => fo (by rw [hL' 14] at h; simpa using h), fun h => f4u (by rw [hL' 15] at h; simpa using h), fun h => by rw [hL' 0]; simp [f150 (hL'.old (by decide) h)], fun h => by rw [hL' 13]; simp [f1413 (hL'.old (by decide) h)], fun h => by rw [hL' 14]; simp [f1514 (hL'.old (by decide) h)], fun h => f0 (hL'.old (by decide) h), fun h => f1 (hL'.old (by decide) h), fun h => f2 (hL'.old (by decide) h), fun h => f3 (hL'.old (by decide) h), fun _ => rfl, fun _ => rfl, fun h => f6 (hL'.old (by decide) h), fun h => f7 (hL'.old (by decide) h), fun h => f8 (hL'.old (by decide) h), fun h => f9 (hL'.old (by decide) h), fun h => f10 (hL'.old (by decide) h), fun h => f11 (hL'.old (by decide) h), fun h => f12 (hL'.old (by decide) h), fun h h2 => f13 (hL'.old (by decide) h) (by rw [hL' 14] at h2; simpa using h2), fun h => f14 (hL'.old (by decide) h), fun h => f15 (hL'.old (by decide) h)⟩
        · cases (Option.some.inj (show some _ = some o from ho))
          refine ⟨rfl, ?_⟩
          generalize hKK : (fun (a' : Act) (w' : World) => ∀ L', More L 6 L' → HexInv w s k x q r row u4 u10 u11 L' a' w') = KK
          obtain rfl := f1 (hdep { on := 1, ground := Ground.data } (by simp) (by rfl))
          obtain rfl := f5 (hdep { on := 5, ground := Ground.data } (by simp) (by rfl))
          go_simp
          rw [← hKK]
          intro L' hL'
          exact ⟨x4, x12, _, x14, x15, x16, _, _, x19, x20, x21, x22, x23, x24, x25, x26, rfl, hb, fun h => fo (by rw [hL' 14] at h; simpa using h), fun h => f4u (by rw [hL' 15] at h; simpa using h), fun h => by rw [hL' 0]; simp [f150 (hL'.old (by decide) h)], fun h => by rw [hL' 13]; simp [f1413 (hL'.old (by decide) h)], fun h => by rw [hL' 14]; simp [f1514 (hL'.old (by decide) h)], fun h => f0 (hL'.old (by decide) h), fun _ => rfl, fun h => f2 (hL'.old (by decide) h), fun h => f3 (hL'.old (by decide) h), fun h => f4 (hL'.old (by decide) h), fun _ => rfl, fun _ => rfl, fun h => f7 (hL'.old (by decide) h), fun h => f8 (hL'.old (by decide) h), fun h => f9 (hL'.old (by decide) h), fun h => f10 (hL'.old (by decide) h), fun h => f11 (hL'.old (by decide) h), fun h => f12 (hL'.old (by decide) h), fun h h2 => f13 (hL'.old (by decide) h) (by rw [hL' 14] at h2; simpa using h2), fun h => f14 (hL'.old (by decide) h), fun h => f15 (hL'.old (by decide) h)⟩
        · cases (Option.some.inj (show some _ = some o from ho))
          refine ⟨rfl, ?_⟩
          generalize hKK : (fun (a' : Act) (w' : World) => ∀ L', More L 7 L' → HexInv w s k x q r row u4 u10 u11 L' a' w') = KK
          go_simp
          rw [← hKK]
          intro L' hL'
          exact ⟨x4, x12, x13, x14, x15, x16, x17, x18, _, x20, x21, x22, x23, x24, x25, x26, rfl, hb, fun h => fo (by rw [hL' 14] at h; simpa using h), fun h => f4u (by rw [hL' 15] at h; simpa using h), fun h => by rw [hL' 0]; simp [f150 (hL'.old (by decide) h)], fun h => by rw [hL' 13]; simp [f1413 (hL'.old (by decide) h)], fun h => by rw [hL' 14]; simp [f1514 (hL'.old (by decide) h)], fun h => f0 (hL'.old (by decide) h), fun h => f1 (hL'.old (by decide) h), fun h => f2 (hL'.old (by decide) h), fun h => f3 (hL'.old (by decide) h), fun h => f4 (hL'.old (by decide) h), fun h => f5 (hL'.old (by decide) h), fun h => f6 (hL'.old (by decide) h), fun _ => rfl, fun h => f8 (hL'.old (by decide) h), fun h => f9 (hL'.old (by decide) h), fun h => f10 (hL'.old (by decide) h), fun h => f11 (hL'.old (by decide) h), fun h => f12 (hL'.old (by decide) h), fun h h2 => f13 (hL'.old (by decide) h) (by rw [hL' 14] at h2; simpa using h2), fun h => f14 (hL'.old (by decide) h), fun h => f15 (hL'.old (by decide) h)⟩
        · cases (Option.some.inj (show some _ = some o from ho))
          refine ⟨rfl, ?_⟩
          generalize hKK : (fun (a' : Act) (w' : World) => ∀ L', More L 8 L' → HexInv w s k x q r row u4 u10 u11 L' a' w') = KK
          go_simp
          rw [← hKK]
          intro L' hL'
          exact ⟨x4, x12, x13, x14, x15, x16, x17, x18, x19, _, x21, x22, x23, x24, x25, x26, rfl, hb, fun h => fo (by rw [hL' 14] at h; simpa using h), fun h => f4u (by rw [hL' 15] at h; simpa using h), fun h => by rw [hL' 0]; simp [f150 (hL'.old (by decide) h)], fun h => by rw [hL' 13]; simp [f1413 (hL'.old (by decide) h)], fun h => by rw [hL' 14]; simp [f1514 (hL'.old (by decide) h)], fun h => f0 (hL'.old (by decide) h), fun h => f1 (hL'.old (by decide) h), fun h => f2 (hL'.old (by decide) h), fun h => f3 (hL'.old (by decide) h), fun h => f4 (hL'.old (by decide) h), fun h => f5 (hL'.old (by decide) h), fun h => f6 (hL'.old (by decide) h), fun h => f7 (hL'.old (by decide) h), fun _ => rfl, fun h => f9 (hL'.old (by decide) h), fun h => f10 (hL'.old (by decide) h), fun h => f11 (hL'.old (by decide) h), fun h => f12 (hL'.old (by decide) h), fun h h2 => f13 (hL'.old (by decide) h) (by rw [hL' 14] at h2; simpa using h2), fun h => f14 (hL'.old (by decide) h), fun h => f15 (hL'.old (by decide) h)⟩
        · cases (Option.some.inj (show some _ = some o from ho))
          refine ⟨rfl, ?_⟩
          generalize hKK : (fun (a' : Act) (w' : World) => ∀ L', More L 9 L' → HexInv w s k x q r row u4 u10 u11 L' a' w') = KK
          go_simp
          rw [← hKK]
          intro L' hL'
          exact ⟨x4, x12, x13, x14, x15, x16, x17, x18, x19, x20, _, x22, x23, x24, x25, x26, rfl, hb, fun h => fo (by rw [hL' 14] at h; simpa using h), fun h => f4u (by rw [hL' 15] at h; simpa using h), fun h => by rw [hL' 0]; simp [f150 (hL'.old (by decide) h)], fun h => by rw [hL' 13]; simp [f1413 (hL'.old (by decide) h)], fun h => by rw [hL' 14]; simp [f1514 (hL'.old (by decide) h)], fun h => f0 (hL'.old (by decide) h), fun h => f1 (hL'.old (by decide) h), fun h => f2 (hL'.old (by decide) h), fun h => f3 (hL'.old (by decide) h), fun h => f4 (hL'.old (by decide) h), fun h => f5 (hL'.old (by decide) h), fun h => f6 (hL'.old (by decide) h), fun h => f7 (hL'.old (by decide) h), fun h => f8 (hL'.old (by decide) h), fun _ => rfl, fun h => f10 (hL'.old (by decide) h), fun h => f11 (hL'.old (by decide) h), fun h => f12 (hL'.old (by decide) h), fun h h2 => f13 (hL'.old (by decide) h) (by rw [hL' 14] at h2; simpa using h2), fun h => f14 (hL'.old (by decide) h), fun h => f15 (hL'.old (by decide) h)⟩
        · cases (Option.some.inj (show some _ = some o from ho))
          refine ⟨rfl, ?_⟩
          generalize hKK : (fun (a' : Act) (w' : World) => ∀ L', More L 10 L' → HexInv w s k x q r row u4 u10 u11 L' a' w') = KK
          obtain rfl := f8 (hdep { on := 8, ground := Ground.data } (by simp) (by rfl))
          obtain rfl := f9 (hdep { on := 9, ground := Ground.data } (by simp) (by rfl))
          go_simp
          rw [← hKK]
          intro L' hL'
          exact ⟨x4, x12, x13, x14, x15, x16, x17, x18, x19, _, _, _, x23, x24, x25, x26, rfl, hb, fun h => fo (by rw [hL' 14] at h; simpa using h), fun h => f4u (by rw [hL' 15] at h; simpa using h), fun h => by rw [hL' 0]; simp [f150 (hL'.old (by decide) h)], fun h => by rw [hL' 13]; simp [f1413 (hL'.old (by decide) h)], fun h => by rw [hL' 14]; simp [f1514 (hL'.old (by decide) h)], fun h => f0 (hL'.old (by decide) h), fun h => f1 (hL'.old (by decide) h), fun h => f2 (hL'.old (by decide) h), fun h => f3 (hL'.old (by decide) h), fun h => f4 (hL'.old (by decide) h), fun h => f5 (hL'.old (by decide) h), fun h => f6 (hL'.old (by decide) h), fun h => f7 (hL'.old (by decide) h), fun _ => rfl, fun _ => rfl, fun _ => rfl, fun h => f11 (hL'.old (by decide) h), fun h => f12 (hL'.old (by decide) h), fun h h2 => f13 (hL'.old (by decide) h) (by rw [hL' 14] at h2; simpa using h2), fun h => f14 (hL'.old (by decide) h), fun h => f15 (hL'.old (by decide) h)⟩
        · cases (Option.some.inj (show some _ = some o from ho))
          refine ⟨rfl, ?_⟩
          generalize hKK : (fun (a' : Act) (w' : World) => ∀ L', More L 11 L' → HexInv w s k x q r row u4 u10 u11 L' a' w') = KK
          obtain rfl := f10 (hdep { on := 10, ground := Ground.data } (by simp) (by rfl))
          go_simp
          rw [← hKK]
          intro L' hL'
          exact ⟨x4, x12, x13, x14, x15, x16, x17, x18, x19, x20, x21, _, _, x24, x25, x26, rfl, hb, fun h => fo (by rw [hL' 14] at h; simpa using h), fun h => f4u (by rw [hL' 15] at h; simpa using h), fun h => by rw [hL' 0]; simp [f150 (hL'.old (by decide) h)], fun h => by rw [hL' 13]; simp [f1413 (hL'.old (by decide) h)], fun h => by rw [hL' 14]; simp [f1514 (hL'.old (by decide) h)], fun h => f0 (hL'.old (by decide) h), fun h => f1 (hL'.old (by decide) h), fun h => f2 (hL'.old (by decide) h), fun h => f3 (hL'.old (by decide) h), fun h => f4 (hL'.old (by decide) h), fun h => f5 (hL'.old (by decide) h), fun h => f6 (hL'.old (by decide) h), fun h => f7 (hL'.old (by decide) h), fun h => f8 (hL'.old (by decide) h), fun h => f9 (hL'.old (by decide) h), fun _ => rfl, fun _ => rfl, fun h => f12 (hL'.old (by decide) h), fun h h2 => f13 (hL'.old (by decide) h) (by rw [hL' 14] at h2; simpa using h2), fun h => f14 (hL'.old (by decide) h), fun h => f15 (hL'.old (by decide) h)⟩
        · cases (Option.some.inj (show some _ = some o from ho))
          refine ⟨rfl, ?_⟩
          generalize hKK : (fun (a' : Act) (w' : World) => ∀ L', More L 12 L' → HexInv w s k x q r row u4 u10 u11 L' a' w') = KK
          obtain rfl := f7 (hdep { on := 7, ground := Ground.data } (by simp) (by rfl))
          obtain rfl := f11 (hdep { on := 11, ground := Ground.data } (by simp) (by rfl))
          go_simp
          rw [← hKK]
          intro L' hL'
          exact ⟨x4, x12, x13, x14, x15, x16, x17, x18, _, x20, x21, x22, _, _, x25, x26, rfl, hb, fun h => fo (by rw [hL' 14] at h; simpa using h), fun h => f4u (by rw [hL' 15] at h; simpa using h), fun h => by rw [hL' 0]; simp [f150 (hL'.old (by decide) h)], fun h => by rw [hL' 13]; simp [f1413 (hL'.old (by decide) h)], fun h => by rw [hL' 14]; simp [f1514 (hL'.old (by decide) h)], fun h => f0 (hL'.old (by decide) h), fun h => f1 (hL'.old (by decide) h), fun h => f2 (hL'.old (by decide) h), fun h => f3 (hL'.old (by decide) h), fun h => f4 (hL'.old (by decide) h), fun h => f5 (hL'.old (by decide) h), fun h => f6 (hL'.old (by decide) h), fun _ => rfl, fun h => f8 (hL'.old (by decide) h), fun h => f9 (hL'.old (by decide) h), fun h => f10 (hL'.old (by decide) h), fun _ => rfl, fun _ => rfl, fun h h2 => f13 (hL'.old (by decide) h) (by rw [hL' 14] at h2; simpa using h2), fun h => f14 (hL'.old (by decide) h), fun h => f15 (hL'.old (by decide) h)⟩
        · cases (Option.some.inj (show some _ = some o from ho))
          refine ⟨rfl, ?_⟩
          generalize hKK : (fun (a' : Act) (w' : World) => ∀ L', More L 13 L' → HexInv w s k x q r row u4 u10 u11 L' a' w') = KK
          obtain rfl := f6 (hdep { on := 6, ground := Ground.data } (by simp) (by rfl))
          obtain rfl := f12 (hdep { on := 12, ground := Ground.data } (by simp) (by rfl))
          have h14 : L 14 = false := by
            cases h : L 14 with
            | false => rfl
            | true => rw [f1413 h] at hLi; cases hLi
          go_simp
          rw [← hKK]
          intro L' hL'
          exact ⟨x4, x12, x13, x14, x15, x16, x17, _, x19, x20, x21, x22, x23, _, _, x26, rfl, hb.alloc hb.size _, fun _ => (fo h14).alloc _, fun h => f4u (by rw [hL' 15] at h; simpa using h), fun h => by rw [hL' 0]; simp [f150 (hL'.old (by decide) h)], fun h => by rw [hL' 13]; simp, fun h => by rw [hL' 14]; simp [f1514 (hL'.old (by decide) h)], fun h => f0 (hL'.old (by decide) h), fun h => f1 (hL'.old (by decide) h), fun h => f2 (hL'.old (by decide) h), fun h => f3 (hL'.old (by decide) h), fun h => f4 (hL'.old (by decide) h), fun h => f5 (hL'.old (by decide) h), fun _ => rfl, fun h => f7 (hL'.old (by decide) h), fun h => f8 (hL'.old (by decide) h), fun h => f9 (hL'.old (by decide) h), fun h => f10 (hL'.old (by decide) h), fun h => f11 (hL'.old (by decide) h), fun _ => rfl, fun _ _ => ⟨_, rfl, heap_alloc_new w' _⟩, fun h => by rw [hL' 14, h14] at h; simp at h, fun h => f15 (hL'.old (by decide) h)⟩
        · cases (Option.some.inj (show some _ = some o from ho))
          refine ⟨rfl, ?_⟩
          obtain rfl := f0 (hdep { on := 0, ground := Ground.data } (by simp) (by rfl))
          have h13 := hdep { on := 13, ground := Ground.data } (by simp) (by rfl)
          obtain ⟨g, rfl, hg⟩ := f13 h13 hLi
          refine wp_append_own _ (.tmp 12) (.tmp 25) 22 rfl w.heap.size 5 i0 (.int .u8 0) 1 1 Tryd.under_bs hi hz0 hz1 hz2 rfl (by decide) _ (2 * k) row rfl (fo hLi) ⟨g, 0, none⟩ 2 2 [.int .u8 (hexDig q : Nat), .int .u8 (hexDig r : Nat)] rfl rfl (two_cells hg) (two_ints _ _) (by unfold maxLen; omega) (by omega) hb.size ?_
          intro v' w2 hown' hgrow _ L' hL'
          exact ⟨x4, _, x13, x14, x15, x16, x17, x18, x19, x20, x21, x22, x23, x24, _, _, rfl, below_owned hb (fo hLi) hgrow, fun h => by rw [hL' 14] at h; simp at h, fun h => f4u (by rw [hL' 15] at h; simpa using h), fun h => by rw [hL' 0]; simp [f150 (hL'.old (by decide) h)], fun _ => by rw [hL' 13]; simp [h13], fun h => by rw [hL' 14]; simp [f1514 (hL'.old (by decide) h)], fun _ => rfl, fun h => f1 (hL'.old (by decide) h), fun h => f2 (hL'.old (by decide) h), fun h => f3 (hL'.old (by decide) h), fun h => f4 (hL'.old (by decide) h), fun h => f5 (hL'.old (by decide) h), fun h => f6 (hL'.old (by decide) h), fun h => f7 (hL'.old (by decide) h), fun h => f8 (hL'.old (by decide) h), fun h => f9 (hL'.old (by decide) h), fun h => f10 (hL'.old (by decide) h), fun h => f11 (hL'.old (by decide) h), fun h => f12 (hL'.old (by decide) h), fun _ h => by rw [hL' 14] at h; simp at h, fun _ => hown', fun h => by rw [f1514 (hL'.old (by decide) h)] at hLi; cases hLi⟩
        · cases (Option.some.inj (show some _ = some o from ho))
          refine ⟨rfl, ?_⟩
          generalize hKK : (fun (a' : Act) (w' : World) => ∀ L', More L 15 L' → HexInv w s k x q r row u4 u10 u11 L' a' w') = KK
          have h0 := hdep { on := 0, ground := Ground.phase } (by simp) (by rfl)
          have h14 := hdep { on := 14, ground := Ground.data } (by simp) (by rfl)
          obtain rfl := f0 h0
          go_simp
          rw [← hKK]
          intro L' hL'
          exact ⟨_, _, x13, x14, x15, x16, x17, x18, x19, x20, x21, x22, x23, x24, x25, x26, rfl, hb, fun h => fo (by rw [hL' 14] at h; simpa using h), fun h => by rw [hL' 15] at h; simp at h, fun _ => by rw [hL' 0]; simp [h0], fun h => by rw [hL' 13]; simp [f1413 (hL'.old (by decide) h)], fun _ => by rw [hL' 14]; simp [h14], fun _ => rfl, fun h => f1 (hL'.old (by decide) h), fun h => f2 (hL'.old (by decide) h), fun h => f3 (hL'.old (by decide) h), fun h => f4 (hL'.old (by decide) h), fun h => f5 (hL'.old (by decide) h), fun h => f6 (hL'.old (by decide) h), fun h => f7 (hL'.old (by decide) h), fun h => f8 (hL'.old (by decide) h), fun h => f9 (hL'.old (by decide) h), fun h => f10 (hL'.old (by decide) h), fun h => f11 (hL'.old (by decide) h), fun h => f12 (hL'.old (by decide) h), fun h h2 => f13 (hL'.old (by decide) h) (by rw [hL' 14] at h2; simpa using h2), fun h => f14 (hL'.old (by decide) h), fun _ => rfl⟩
      · intro L a w' hall hI
        obtain ⟨x4, x12, x13, x14, x15, x16, x17, x18, x19, x20, x21, x22, x23, x24, x25, x26, rfl, hb, fo, f4u, f150, f1413, f1514, f0, f1, f2, f3, f4, f5, f6, f7, f8, f9, f10, f11, f12, f13, f14, f15⟩ := hI
        have hx4 := f15 (hall 15 (by decide))
        have HO3 := hid (f14 (hall 14 (by decide)))
        have HB3 := hid hb
        subst hx4
        clear hb fo f4u f150 f1413 f1514 f0 f1 f2 f3 f4 f5 f6 f7 f8 f9 f10 f11 f12 f13 f14 f15 hall
        go_wp2
        go_roundw
        case rel =>
          refine ⟨k + 1, by omega, by go_num, ?_, HB3.out⟩
          have h := HO3.out
          have hlk : k < (tx s).length := by rw [HT.out]; exact hk8
          have e : row ++ [Value.int .u8 (hexDig q : Nat), Value.int .u8 (hexDig r : Nat)] = bc (hexN ((tx s).take (k + 1))) := by
            rw [HRw.out, HQ.out, HR.out, hexN_snoc, List.take_succ_eq_append_getElem hlk, HX.out, List.getD_eq_getElem?_getD, List.getElem?_eq_getElem hlk]
            rfl
          rw [e] at h
          exact h
        case measure => simp [intOf]; omega
    · obtain rfl : k = s.size := by omega
      obtain ⟨g, c, rfl, _, _⟩ := owned_slice hown (by omega)
      rw [List.take_of_length_le (by rw [HT.out]; omega)] at hown
      have hl : (hexN (tx s)).length = 2 * s.size := by rw [hexN_length, HT.out]
      have hcv := conv_row wr g 0 (2 * s.size) c (hexN (tx s)) hl (owned_cells hown hl)
      have HB := hid hb
      clear hown hb hl
      go_wp2
      go_ret
      exact ⟨rfl, HB.out⟩

end Go.Proofs.YtihljbephlpgcaaDoor
