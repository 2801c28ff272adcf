/-
  A region that draws its order, as in Pure: also for a slot that is read before it is written.
-/
import Derived.Test.YtelfpefcjchjbaaGreatDoorPure
namespace Go.Proofs.YtelfpefcjchjbaaGreatDoor
open Go.RowKit
open Go.Lib (hid)
namespace Pu

section
variable {P : Program} {ops : Array Oper} {Q : Exit → Act → World → Prop}

/-- THE LAW. 'fin': the last operation (any number that is none: there is no such operation). -/
theorem wp_region_pure2 {id : Nat} {a0 : Act} {w : World} (fin : Nat) (S : Nat → World → Value → Prop) (hm : P.follows .mixedOrders = true) (hb : backB .any ops = true) (hown : ownB ops a0.tmps.size = true) (hcov : fin < ops.size → covB ops fin = true)
    (hS : ∀ t w w' v, S t w v → Below w.heap.size w w' → S t w' v)
    (hstep : ∀ L a w1 i o, ops[i]? = some o → i ≠ fin → L i = false → (∀ e ∈ o.after, Region.binds .any e = true → L e.on = true) → (∀ j o', L j = true → ops[j]? = some o' → ∀ e ∈ o'.after, Region.binds .any e = true → L e.on = true) → PInv ops S a0 w L a w1 → PStep P ops S Q o a w1)
    (hfin : ∀ L a w1 o, ops[fin]? = some o → L fin = false → (∀ j, j < ops.size → j ≠ fin → L j = true) → PInv ops S a0 w L a w1 → Region.wanted o (yielded ops a.tmps) = true ∧ o.wp P a w1 (Q .normal) Q)
    (hend : ops.size ≤ fin → ∀ L a w1, (∀ j, j < ops.size → L j = true) → PInv ops S a0 w L a w1 → Q .normal a w1) :
    (Code.region id ops true).wp P Q a0 w := by
  refine wp_region_any hm ?_
  suffices H : ∀ (fuel : Nat) (listed : Array Bool) (a : Act) (w1 : World), listed.size = ops.size → listed.toList.countP (fun b => !b) ≤ fuel → (∀ i o, listed.getD i false = true → ops[i]? = some o → ∀ e ∈ o.after, Region.binds .any e = true → listed.getD e.on false = true) →
      ((listed.getD fin false = true ∧ (∀ j, j < ops.size → listed.getD j false = true) ∧ Q .normal a w1) ∨ ((fin < ops.size → listed.getD fin false = false) ∧ PInv ops S a0 w (fun i => listed.getD i false) a w1)) → wpAny P .any ops Q fuel listed a w1 by
    refine H _ _ _ _ (by simp) ?_ ?_ (.inr ⟨?_, ?_⟩)
    · refine Nat.le_trans (List.countP_le_length ..) (by simp)
    · intro i o hi
      simp only [Array.getD_eq_getD_getElem?, Array.getElem?_replicate] at hi
      split at hi <;> cases hi
    · intro _
      simp only [Array.getD_eq_getD_getElem?, Array.getElem?_replicate]
      split <;> rfl
    · refine ⟨rfl, rfl, (Below.refl _ _).drew, fun _ _ => rfl, ?_⟩
      intro i o d hi
      simp only [Array.getD_eq_getD_getElem?, Array.getElem?_replicate] at hi
      split at hi <;> cases hi
  have hfull : ∀ (listed : Array Bool) (a : Act) (w1 : World), (∀ j, j < ops.size → listed.getD j false = true) → ((listed.getD fin false = true ∧ (∀ j, j < ops.size → listed.getD j false = true) ∧ Q .normal a w1) ∨ ((fin < ops.size → listed.getD fin false = false) ∧ PInv ops S a0 w (fun i => listed.getD i false) a w1)) → Q .normal a w1 := by
    intro listed a w1 hall h
    rcases h with ⟨_, _, h⟩ | ⟨h1, h2⟩
    · exact h
    · rcases Nat.lt_or_ge fin ops.size with hlt | hge
      · rw [hall fin hlt] at h1
        exact absurd (h1 hlt) (by simp)
      · exact hend hge _ a w1 hall h2
  intro fuel
  induction fuel with
  | zero =>
    intro listed a w1 hs hc hcl hI
    have hall : ∀ i, i < ops.size → listed.getD i false = true := by
      intro i hi
      have h0 := Nat.le_zero.1 hc
      rw [List.countP_eq_zero] at h0
      have := h0 (listed[i]'(by omega)) (by simp)
      simp only [Array.getD_eq_getD_getElem?]
      rw [Array.getElem?_eq_getElem (by omega)]
      simpa using this
    refine ⟨?_, hfull listed a w1 hall hI⟩
    cases hr : Region.ready .any ops listed with
    | nil => rfl
    | cons x xs =>
      exfalso
      obtain ⟨h1, h2, _⟩ := ready_mem (show x ∈ Region.ready .any ops listed by rw [hr]; exact List.mem_cons_self ..)
      have := hall x h1
      simp only [Array.getD_eq_getD_getElem?] at this h2
      rw [Array.getElem?_eq_getElem (by omega)] at this h2
      simp at this h2
      rw [this] at h2
      cases h2
  | succ fuel ih =>
    intro listed a w1 hs hc hcl hI
    refine ⟨fun hr => hfull listed a w1 (fun i hi => all_listed hb hs hr i i (Nat.le_refl _) hi) hI, fun i hi => ?_⟩
    obtain ⟨h1, h2, h3⟩ := ready_mem hi
    have ho := Array.getElem?_eq_getElem h1
    have hLi : listed.getD i false = false := by
      simp only [Array.getD_eq_getD_getElem?] at h2 ⊢
      rw [Array.getElem?_eq_getElem (by omega)] at h2 ⊢
      simpa using h2
    have hcount : (listed.setIfInBounds i true).toList.countP (fun b => !b) ≤ fuel := by
      have hil : i < listed.toList.length := by simpa [hs] using h1
      have hval : listed.toList[i] = false := by
        simp only [Array.getD_eq_getD_getElem?] at hLi
        rw [Array.getElem?_eq_getElem (by omega)] at hLi
        simpa using hLi
      have hset : (listed.setIfInBounds i true).toList = listed.toList.set i true := Array.toList_setIfInBounds ..
      rw [hset, List.countP_set hil, hval]
      have hpos : 0 < listed.toList.countP (fun b => !b) := List.countP_pos_iff.2 ⟨false, by rw [← hval]; exact List.getElem_mem hil, rfl⟩
      simp only [Bool.not_false, Bool.not_true, if_true, Bool.false_eq_true, if_false]
      omega
    have hmore : More (fun j => listed.getD j false) i (fun j => (listed.setIfInBounds i true).getD j false) := by
      intro j
      simp only [Array.getD_eq_getD_getElem?, Array.getElem?_setIfInBounds]
      by_cases e : i = j
      · subst e
        rw [if_pos rfl, if_pos (by omega)]
        simp
      · rw [if_neg e]
        simp [Ne.symm e]
    have hcl' : ∀ k o, (listed.setIfInBounds i true).getD k false = true → ops[k]? = some o → ∀ e ∈ o.after, Region.binds .any e = true → (listed.setIfInBounds i true).getD e.on false = true := by
      intro k o hk hok e he hbe
      have hm := hmore e.on
      simp only at hm
      rw [hm]
      by_cases hki : k = i
      · subst hki
        rw [h3 o hok e he hbe]; rfl
      · rw [hcl k o (hmore.old hki hk) hok e he hbe]; rfl
    rcases hI with ⟨_, hA, _⟩ | ⟨hF, hI⟩
    · rw [hA i h1] at hLi; cases hLi
    by_cases hif : i = fin
    · subst hif
      have hall' := cov_all (L := fun j => (listed.setIfInBounds i true).getD j false) hb (hcov h1) hcl' ((hmore i).trans (by simp))
      have hothers : ∀ j, j < ops.size → j ≠ i → listed.getD j false = true := fun j hj hne => hmore.old hne (hall' _ j (Nat.le_refl _) hj)
      obtain ⟨hg, hw⟩ := hfin _ a w1 _ ho hLi hothers hI
      unfold wpOp
      rw [ho]
      simp only
      rw [if_pos hg]
      refine .inl (Oper.wp_mono (fun a' w' h => ?_) hw)
      refine ih _ a' w' (by simpa using hs) hcount hcl' (.inl ⟨hall' _ i (Nat.le_refl _) h1, fun j hj => hall' _ j (Nat.le_refl _) hj, h⟩)
    · have hnofin : fin < ops.size → (listed.setIfInBounds i true).getD fin false = false := by
        intro hlt
        have hm := hmore fin
        simp only at hm
        rw [hm, hF hlt]
        simpa using fun e => hif e.symm
      unfold wpOp
      rw [ho]
      simp only
      rcases hstep _ a w1 i _ ho hif hLi (h3 _ ho) hcl hI with ⟨hg, hw⟩ | ⟨hg, hv⟩
      · rw [if_pos hg]
        refine .inl (Oper.wp_mono (fun a' w' h => ?_) hw)
        obtain ⟨v, rfl, hbel, hv⟩ := h
        exact ih _ _ w' (by simpa using hs) hcount hcl' (.inr ⟨hnofin, hI.put hS hown ho hbel hv hmore⟩)
      · rw [if_neg (by rw [hg]; simp)]
        exact ih _ _ w1 (by simpa using hs) hcount hcl' (.inr ⟨hnofin, hI.put hS hown ho (Below.refl _ _) hv hmore⟩)


/-- Only the operation J writes the slot. -/
def onlyB (ops : Array Oper) (t J : Nat) : Bool := (List.range ops.size).all fun j => decide (j = J) || ((ops[j]?).bind (·.dst) != some t)
/-- The operation J waits for the operation i. -/
def waitsB (ops : Array Oper) (J i : Nat) : Bool := match ops[J]? with
  | none => false
  | some o => o.after.toList.any fun e => Region.binds .any e && decide (e.on = i)
/-- A slot that is not written yet: who writes it waits for this operation. -/
theorem PInv.old {S : Nat → World → Value → Prop} {a0 : Act} {w0 : World} {L : Nat → Bool} {a : Act} {w : World} (h : PInv ops S a0 w0 L a w)
    (hcl : ∀ j o', L j = true → ops[j]? = some o' → ∀ e ∈ o'.after, Region.binds .any e = true → L e.on = true) {t J i : Nat} (ho : onlyB ops t J = true) (hL : L i = false) (hw : waitsB ops J i = true) : a.tmps.getD t undef = a0.tmps.getD t undef := by
  refine getD_of_opt (h.kept t fun j o' ho' hd' => ?_)
  unfold onlyB at ho
  rw [List.all_eq_true] at ho
  have h1 := ho j (List.mem_range.2 (Array.getElem?_eq_some_iff.1 ho').1)
  rw [ho'] at h1
  simp only [Option.bind_some, hd', bne_self_eq_false, Bool.or_false, decide_eq_true_eq] at h1
  subst h1
  cases hLJ : L j with
  | false => rfl
  | true =>
    exfalso
    unfold waitsB at hw
    rw [ho'] at hw
    simp only [List.any_eq_true, Bool.and_eq_true, decide_eq_true_eq] at hw
    obtain ⟨e, he, hbe, hei⟩ := hw
    have := hcl j o' hLJ ho' e (Array.mem_toList_iff.1 he) hbe
    rw [hei, hL] at this
    cases this

end
end Pu
end Go.Proofs.YtelfpefcjchjbaaGreatDoor
