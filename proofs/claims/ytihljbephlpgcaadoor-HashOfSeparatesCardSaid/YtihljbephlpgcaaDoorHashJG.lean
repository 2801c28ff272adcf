/-
  A region that draws its order, some of its operations guarded, by what holds when a set of them has been carried out.
-/
import Derived.Test.YtihljbephlpgcaaDoorHashJ
namespace Go.Proofs.YtihljbephlpgcaaDoor
open Go.RowKit
open Go.Lib (hid)

section
variable {P : Program} {ops : Array Oper} {Q : Exit → Act → World → Prop} {md : Region.Mode}

/-- What is wanted of an operation that comes up: carried out, it leads to what holds with one operation more. -/
def StepToG (P : Program) (ops : Array Oper) (Q : Exit → Act → World → Prop) (Inv : (Nat → Bool) → Act → World → Prop) (L : Nat → Bool) (i : Nat) (o : Oper) (a : Act) (w : World) : Prop :=
  Region.wanted o (yielded ops a.tmps) = true ∧ o.wp P a w (fun a' w' => ∀ L', More L i L' → Inv L' a' w') Q

theorem wpAny_invG (Inv : (Nat → Bool) → Act → World → Prop) (hb : backB md ops = true)
    (hstep : ∀ L a w i o, ops[i]? = some o → L i = false → (∀ e ∈ o.after, Region.binds md e = true → L e.on = true) → Inv L a w → StepToG P ops Q Inv L i o a w)
    (hend : ∀ L a w, (∀ i, i < ops.size → L i = true) → Inv L a w → Q .normal a w) :
    ∀ (fuel : Nat) (listed : Array Bool) (a : Act) (w : World), listed.size = ops.size → listed.toList.countP (fun b => !b) ≤ fuel → Inv (fun i => listed.getD i false) a w → wpAny P md ops Q fuel listed a w := by
  intro fuel
  induction fuel with
  | zero =>
    intro listed a w hs hc hI
    have hall : ∀ i, i < ops.size → listed.getD i false = true := by
      intro i hi
      have h0 := Nat.le_zero.1 hc
      rw [List.countP_eq_zero] at h0
      have := h0 (listed[i]'(by omega)) (by simp)
      simp only [Array.getD_eq_getD_getElem?]
      rw [Array.getElem?_eq_getElem (by omega)]
      simpa using this
    refine ⟨?_, hend _ a w hall hI⟩
    cases hr : Region.ready md ops listed with
    | nil => rfl
    | cons x xs =>
      exfalso
      obtain ⟨h1, h2, _⟩ := ready_mem (show x ∈ Region.ready md ops listed by rw [hr]; exact List.mem_cons_self ..)
      have := hall x h1
      simp only [Array.getD_eq_getD_getElem?] at this h2
      rw [Array.getElem?_eq_getElem (by omega)] at this h2
      simp at this h2
      rw [this] at h2
      cases h2
  | succ fuel ih =>
    intro listed a w hs hc hI
    refine ⟨fun hr => hend _ a w (fun i hi => all_listed hb hs hr i i (Nat.le_refl _) hi) hI, fun i hi => ?_⟩
    obtain ⟨h1, h2, h3⟩ := ready_mem hi
    have ho := Array.getElem?_eq_getElem h1
    have hLi : listed.getD i false = false := by
      simp only [Array.getD_eq_getD_getElem?] at h2 ⊢
      rw [Array.getElem?_eq_getElem (by omega)] at h2 ⊢
      simpa using h2
    obtain ⟨hg, hw⟩ := hstep _ a w i _ ho hLi (h3 _ ho) hI
    unfold wpOp
    rw [ho]
    simp only
    rw [if_pos hg]
    refine .inl (Oper.wp_mono (fun a' w' h => ?_) hw)
    refine ih _ a' w' (by simpa using hs) ?_ ?_
    · have hil : i < listed.toList.length := by simpa [hs] using h1
      have hval : listed.toList[i] = false := by
        simp only [Array.getD_eq_getD_getElem?] at hLi
        rw [Array.getElem?_eq_getElem (by omega)] at hLi
        simpa using hLi
      have hset : (listed.setIfInBounds i true).toList = listed.toList.set i true := Array.toList_setIfInBounds ..
      rw [hset, List.countP_set hil, hval]
      have hpos : 0 < listed.toList.countP (fun b => !b) := List.countP_pos_iff.2 ⟨false, by rw [← hval]; exact List.getElem_mem hil, rfl⟩
      simp only [Bool.not_false, Bool.not_true, if_true, Bool.false_eq_true, if_false]
      omega
    · refine h _ fun j => ?_
      simp only [Array.getD_eq_getD_getElem?, Array.getElem?_setIfInBounds]
      by_cases e : i = j
      · subst e
        rw [if_pos rfl, if_pos (by omega)]
        simp
      · rw [if_neg e]
        simp [Ne.symm e]

/-- THE LAW. -/
theorem wp_region_invG {id : Nat} {a : Act} {w : World} (hm : P.follows .mixedOrders = true) (Inv : (Nat → Bool) → Act → World → Prop) (hb : backB .any ops = true)
    (hstart : ∀ L, (∀ i, L i = false) → Inv L a w.drew)
    (hstep : ∀ L a w i o, ops[i]? = some o → L i = false → (∀ e ∈ o.after, Region.binds .any e = true → L e.on = true) → Inv L a w → StepToG P ops Q Inv L i o a w)
    (hend : ∀ L a w, (∀ i, i < ops.size → L i = true) → Inv L a w → Q .normal a w) : (Code.region id ops true).wp P Q a w := by
  refine wp_region_any hm ?_
  refine wpAny_invG Inv hb hstep hend _ _ _ _ (by simp) ?_ (hstart _ fun i => ?_)
  · refine Nat.le_trans (List.countP_le_length ..) (by simp)
  · simp only [Array.getD_eq_getD_getElem?, Array.getElem?_replicate]
    split <;> rfl
end

end Go.Proofs.YtihljbephlpgcaaDoor
