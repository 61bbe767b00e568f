/- Order.lean's law, for an operation that yields whatever the world: it may be taken first though g does not wait for it. -/
import Derived.Test.YtfnkemifbdmlmabOrder
namespace Go.Proofs.Ytfnkemifbdmlmab
set_option linter.unusedVariables false

section
variable {P : Program} {ops : Array Oper} {Q : Exit → Act → World → Prop} {md : Region.Mode} {S : World → Prop} {g : Nat}

theorem wpAnyG_still {i : Nat} {oi : Oper} {v : Value} (hi : ops[i]? = some oi) (hsel : ∀ (j : Nat) (o : Oper) cs b, ops[j]? = some o → o.op ≠ .select cs b)
    (hQ : ∀ c a w, Q (.panic c) (a.put oi.dst v) w → Q (.panic c) a w) (hgi : g ≠ i) (fuel : Nat) :
    ∀ (listed : Array Bool) (a : Act) (w : World), Alone md ops i oi listed → i ∈ Region.ready md ops listed → YieldsIf P ops (fun _ => True) oi v a → (listed.getD g false = false → S w) →
      wpAnyG P md ops Q S g fuel (listed.setIfInBounds i true) (a.put oi.dst v) w → wpAnyG P md ops Q S g (fuel + 1) listed a w := by
  have here : ∀ (listed : Array Bool) (w : World), (listed.getD g false = false → S w) → ((listed.setIfInBounds i true).getD g false = false → S w) := fun listed w h e => h (by rw [getD_set_ne false (Ne.symm hgi)] at e; exact e)
  induction fuel with
  | zero =>
    intro listed a w _ hr hy hS H
    constructor
    · intro h0; rw [h0] at hr; cases hr
    · intro j hj
      rcases Nat.decEq j i with hji | rfl
      · have hnone := ready_mono hj hji
        rw [H.1] at hnone; cases hnone
      · exact hy.wpOp hi trivial ⟨here _ _ hS, H⟩
  | succ fuel ih =>
    intro listed a w hal hr hy hS H
    have hiun := getD_both (mem_ready.1 hr).1
    constructor
    · intro h0; rw [h0] at hr; cases hr
    · intro j hj
      rcases Nat.decEq j i with hji | rfl
      · obtain ⟨hjun, oj, hoj, -⟩ := mem_ready.1 hj
        have step := wpOp_putIf hoj (hal j oj hoj hji hjun (ready_free hiun hj hoj)) (fun cs b => hsel i oi cs b hi) (fun cs b => hsel j oj cs b hoj) hQ hy (H.2 j (ready_mono hj hji))
        refine wpOp_mono (fun a' w' k => ?_) step
        obtain ⟨ky, ks, kw⟩ := k
        rw [Array.setIfInBounds_comm _ _ (Ne.symm hji)] at kw ks
        have ks' : (listed.setIfInBounds j true).getD g false = false → S w' := fun e => ks (by rw [getD_set_ne false (Ne.symm hgi)]; exact e)
        exact ⟨ks', ih _ a' w' hal.more (ready_mono hr (Ne.symm hji)) ky ks' kw⟩
      · exact hy.wpOp hi trivial ⟨here _ _ hS, H⟩
theorem wpAnyG_takeF {i : Nat} {oi : Oper} {v : Value} {fuel : Nat} {listed : Array Bool} {a : Act} {w : World} (hi : ops[i]? = some oi)
    (hst : (Region.noSelect ops && Region.free md ops listed i && (Region.ready md ops listed).contains i && g != i) = true)
    (hcl : Closed md ops listed)
    (hQ : ∀ c a w, Q (.panic c) (a.put oi.dst v) w → Q (.panic c) a w) (hy : YieldsIf P ops (fun _ => True) oi v a) (hS : S w)
    (h : Closed md ops (listed.setIfInBounds i true) → wpAnyG P md ops Q S g fuel (listed.setIfInBounds i true) (a.put oi.dst v) w) : wpAnyG P md ops Q S g (fuel + 1) listed a w := by
  simp only [Bool.and_eq_true, bne_iff_ne] at hst
  obtain ⟨⟨⟨h1, h2⟩, h3⟩, h5⟩ := hst
  have h3' : i ∈ Region.ready md ops listed := by simpa using h3
  exact wpAnyG_still hi (Region.noSelect_spec h1) hQ h5 fuel listed a w (Region.free_spec hi h2) h3' hy (fun _ => hS) (h (hcl.set h3'))
end
end Go.Proofs.Ytfnkemifbdmlmab
