/-
  Different parts have different inputs; comparisons of arrays of bytes.
-/
import Derived.Test.YtihljbephlpgcaaDoorHashWO
import Derived.Test.YtihljbephlpgcaaDoorWire2
namespace Go.Proofs.YtihljbephlpgcaaDoor
open Go.RowKit
open Go.Lib (hid)
open S
open W

def toI (l : List Nat) : List Int := l.map fun x : Nat => (x : Int)
theorem toI_app (a b : List Nat) : toI (a ++ b) = toI a ++ toI b := by simp [toI]
theorem toI_inj {a b : List Nat} (h : toI a = toI b) : a = b := by
  have h2 := congrArg (List.map Int.toNat) h
  simpa [toI, Function.comp_def] using h2
theorem toI_code (n : Int) : toI ((code n).map Int.toNat) = code n := by
  unfold toI
  rw [List.map_map]
  refine (List.map_congr_left (g := id) fun x hx => ?_).trans (List.map_id _)
  have := (code_bs n) x hx
  simp only [Function.comp, id]
  omega
theorem enc_cut {l l' r r' : List Nat} (h1 : l.length ≤ 1000000) (h2 : l'.length ≤ 1000000) (h : encN l ++ r = encN l' ++ r') : l = l' ∧ r = r' := by
  have h3 := congrArg toI h
  unfold encN at h3
  simp only [toI_app, toI_code, List.append_assoc] at h3
  have d1 := dec_code (l.length : Int) (by omega) (by omega) (toI l ++ toI r)
  have d2 := dec_code (l'.length : Int) (by omega) (by omega) (toI l' ++ toI r')
  rw [h3, d2] at d1
  have e1 : (l'.length : Int) = l.length := congrArg Prod.fst d1
  rw [e1] at h3
  have h4 := List.append_cancel_left h3
  obtain ⟨h5, h6⟩ := List.append_inj h4 (by simp [toI]; omega)
  exact ⟨toI_inj h5, toI_inj h6⟩
theorem flat_inj : ∀ (a b : List ByteArray), (∀ s ∈ a, s.size ≤ 400) → (∀ s ∈ b, s.size ≤ 400) → (a.flatMap fun s => encN (tx s)) = (b.flatMap fun s => encN (tx s)) → a = b
  | [], [], _, _, _ => rfl
  | [], t :: b, _, _, h => by
    have h2 := congrArg List.length h
    simp only [List.flatMap_nil, List.flatMap_cons, List.length_nil, List.length_append, encN_length] at h2
    have := code_pos ((tx t).length : Int)
    omega
  | s :: a, [], _, _, h => by
    have h2 := congrArg List.length h
    simp only [List.flatMap_nil, List.flatMap_cons, List.length_nil, List.length_append, encN_length] at h2
    have := code_pos ((tx s).length : Int)
    omega
  | s :: a, t :: b, ha, hb, h => by
    simp only [List.flatMap_cons] at h
    have hs := ha s (List.mem_cons_self ..)
    have ht := hb t (List.mem_cons_self ..)
    obtain ⟨e1, e2⟩ := enc_cut (by rw [tx_length]; omega) (by rw [tx_length]; omega) h
    rw [tx_inj e1, flat_inj a b (fun x hx => ha x (List.mem_cons_of_mem _ hx)) (fun x hx => hb x (List.mem_cons_of_mem _ hx)) e2]
theorem ofIn_inj {c d : Nat} {a b : List ByteArray} (hc : c < 256) (hd : d < 256) (ha : ∀ s ∈ a, s.size ≤ 400) (hb : ∀ s ∈ b, s.size ≤ 400) (h : ofIn (c : Int) a = ofIn (d : Int) b) : c = d ∧ a = b := by
  unfold ofIn at h
  obtain ⟨h1, h2⟩ := List.cons.inj h
  refine ⟨?_, flat_inj a b ha hb h2⟩
  unfold tagN at h1
  omega

/-- '==' of two arrays of bytes. -/
theorem eqItems_two (ds es : List Int) (hl : ds.length = es.length) (w : World) : ∀ is : List Nat, (∀ i ∈ is, i < ds.length) → (Op.eqItems (9998 + 1) 5 1 (ds.map (Value.int .u8)).toArray (es.map (Value.int .u8)).toArray is).run Tryd.prog w = .ok (is.all fun i => decide (ds.getD i 0 = es.getD i 0)) w
  | [], _ => by simp [Op.eqItems]
  | i :: is, h => by
    have hi := h i (List.mem_cons_self ..)
    have hi2 : i < es.length := by omega
    have ih := eqItems_two ds es hl w is (fun x hx => h x (List.mem_cons_of_mem _ hx))
    simp only [Op.eqItems, Sem.run_bind, Nat.mul_one, part_byteN ds i hi, part_byteN es i hi2, Result.andThen_ok]
    rw [run_equalIn_int w 9998 _ _ _ _ _ Tryd.under_u8]
    by_cases e : ds[i] = es[i]
    · simpa [Result.andThen_ok, e, List.getD_eq_getElem?_getD, hi, hi2] using ih
    · simp [Result.andThen_ok, e, List.getD_eq_getElem?_getD, hi, hi2]
theorem eqlD2 (l m : List Nat) (h : l.length = 16) (h2 : m.length = 16) (w : World) : (Op.equalIn 10000 44 (.agg (bytesV l)) (.agg (bytesV m))).run Tryd.prog w = .ok (decide (l = m)) w := by
  have el : ∀ l : List Nat, bytesV l = ((toI l).map (Value.int .u8)).toArray := fun l => by simp [bytesV, toI]
  obtain ⟨i0, hi, _, hz1, _⟩ := info_parts Tryd.info_u8
  have hc : Tryd.prog.cellsOf 5 = 1 := by kernel_rfl
  have hl : (toI l).length = 16 := by simpa [toI] using h
  have hm : (toI m).length = 16 := by simpa [toI] using h2
  have e := run_equalIn_array (P := Tryd.prog) w 9999 ((toI l).map (Value.int .u8)).toArray ((toI m).map (Value.int .u8)).toArray Tryd.under_d16 hi
  rw [hc, eqItems_two (toI l) (toI m) (hl.trans hm.symm) w (List.range 16) (fun i hi => by rw [hl]; exact List.mem_range.1 hi)] at e
  rw [el l, el m]
  refine e.trans ?_
  congr 1
  have hiff : (l = m) ↔ ∀ i, i < 16 → (toI l).getD i 0 = (toI m).getD i 0 := by
    constructor
    · intro h _ _; rw [h]
    · intro h
      refine toI_inj (List.ext_getElem (hl.trans hm.symm) fun i h3 h4 => ?_)
      have := h i (by omega)
      simpa [List.getD_eq_getElem?_getD, h3, h4] using this
  by_cases hlm : l = m
  · rw [decide_eq_true hlm, List.all_eq_true]
    intro i hi
    exact decide_eq_true (hiff.1 hlm i (List.mem_range.1 hi))
  · rw [decide_eq_false hlm, List.all_eq_false]
    have : ¬ ∀ i, i < 16 → (toI l).getD i 0 = (toI m).getD i 0 := fun h => hlm (hiff.2 h)
    simp only [Classical.not_forall] at this
    obtain ⟨i, hi, hne⟩ := this
    exact ⟨i, List.mem_range.2 hi, by simpa using hne⟩

end Go.Proofs.YtihljbephlpgcaaDoor
