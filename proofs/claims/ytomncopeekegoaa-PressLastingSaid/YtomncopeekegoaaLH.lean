/-
  A law of my own: a region that draws its order inside a fence, where what an operation yields is known under a condition S of the world that is shown anew behind each operation that is carried out.
-/
import Derived.OrdersIn
import Derived.OrdersHeld
import Derived.Deep.RegionHeld3
import Derived.Deep.Draws
import Derived.Lib.Hide
namespace Go
open Go.RowKit
section
variable {F : Fence} {n : Nat} {P : Program} {md : Region.Mode} {ops : Array Oper} {Q : Exit → Act → World → Prop} {S : World → Prop}

/-- What is in a temporary makes no difference to an operation that is apart; what holds of the state and abides what the operation leaves holds behind it. -/
theorem wpOpIn_swap {j : Nat} {oi oj : Oper} {v : Value} {R : Act → Prop} (hro : F.round = none) (hj : ops[j]? = some oj) (hap : oi.apart ops oj = true)
    (hsj : ∀ cs b, oj.op ≠ .select cs b) (hQ : ∀ c a w, Q (.panic c) (a.put oi.dst v) w → Q (.panic c) a w)
    (hR : ∀ a u, R a → R (a.put oj.dst u)) (hRd : ∀ (a : Act) d, R a → R { a with defers := d :: a.defers }) {K : Act → World → Prop} {a : Act} {w : World}
    (ha : R a) (h : wpOpIn F n P ops Q j K (a.put oi.dst v) w) : wpOpIn F n P ops Q j (fun a' w' => R a' ∧ K (a'.put oi.dst v) w') a w := by
  obtain ⟨p1, p2, -⟩ := Oper.apart_spec hap
  have back : ∀ u, (a.put oj.dst u).put oi.dst v = (a.put oi.dst v).put oj.dst u := fun u => (Act.put_comm a v u p2).symm
  unfold wpOpIn at *
  simp only [hj] at *
  rw [wanted_put oj a oi.dst v p1, about_put oj w a oi.dst v p1] at h
  by_cases hw : Region.wanted oj (yielded ops a.tmps) = true
  · rw [if_pos hw] at h ⊢
    unfold Oper.wpIn at *
    rw [about_put oj w a oi.dst v p1] at h
    obtain ⟨hab, h⟩ := h
    rw [hro, Oper.semAt_none, execOp_put oj hsj a oi.dst v p1] at h
    refine ⟨hab, ?_⟩
    rw [hro, Oper.semAt_none]
    have ends : ∀ (e : Ending) (w2 : World), (match (motive := Ending → World → Prop) e, w2 with
        | .returned u, w2 => K ((a.put oi.dst v).put oj.dst u) w2
        | .panicked c, w2 => Q (.panic c) (a.put oi.dst v) w2
        | .outgrown, _ => LetsOut Q) → (match (motive := Ending → World → Prop) e, w2 with
        | .returned u, w2 => R (a.put oj.dst u) ∧ K ((a.put oj.dst u).put oi.dst v) w2
        | .panicked c, w2 => Q (.panic c) a w2
        | .outgrown, _ => LetsOut Q) := by
      intro e w2 he
      cases e with
      | returned u => exact ⟨hR a u ha, by rw [back u]; exact he⟩
      | panicked c => exact hQ _ _ _ he
      | outgrown => exact he
    generalize (execOp a.eval oj).run P w = r at h ⊢
    cases r with
    | ok x w' =>
      cases x with
      | value u => exact ⟨hR a u ha, by rw [back u]; exact h⟩
      | skip => exact ⟨hR a _ ha, by rw [back]; exact h⟩
      | defer d =>
        refine ⟨hR _ _ (hRd a d ha), ?_⟩
        have e := (Act.put_comm { a with defers := d :: a.defers } v undef p2).symm
        simp only [Oper.uponIn] at h ⊢
        rw [e, ← Act.put_defers]
        exact h
      | enter f args => exact ⟨h.1, CallsIn.mono h.2 (fun e w2 he => ends e w2 he)⟩
      | row row args => exact ⟨h.1, RowsIn.mono h.2 (fun u w2 he => ⟨hR a u ha, by rw [back u]; exact he⟩)⟩
      | round l f tmps assign body => exact ⟨h.1, RoundIn.mono h.2 (fun e w2 he => ends e w2 he)⟩
      | _ => exact h
    | halt x w' => cases x <;> simp only [Oper.uponIn] at h ⊢ <;> first | exact hQ _ _ _ h | exact h
  · rw [if_neg hw] at h ⊢
    exact ⟨h.1, hR a _ ha, by rw [back]; exact h.2⟩

/-- Whatever order is picked from here on, and S holds behind each operation that is carried out. -/
def wpHeldIn (F : Fence) (n : Nat) (P : Program) (md : Region.Mode) (ops : Array Oper) (Q : Exit → Act → World → Prop) (S : World → Prop) : Nat → Array Bool → Act → World → Prop
  | 0, listed, a, w => Region.ready md ops listed = [] ∧ Q .normal a w
  | fuel + 1, listed, a, w => (Region.ready md ops listed = [] → Q .normal a w) ∧
    ∀ i ∈ Region.ready md ops listed, wpOpIn F n P ops Q i (fun a' w' => S w' ∧ wpHeldIn F n P md ops Q S fuel (listed.setIfInBounds i true) a' w') a w
theorem wpAnyIn_of_heldIn : ∀ (fuel : Nat) (listed : Array Bool) (a : Act) (w : World), wpHeldIn F n P md ops Q S fuel listed a w → wpAnyIn F n P md ops Q fuel listed a w
  | 0, _, _, _, h => h
  | fuel + 1, _, _, _, h => ⟨h.1, fun i hi => wpOpIn_mono (fun _ _ h2 => wpAnyIn_of_heldIn fuel _ _ _ h2.2) (h.2 i hi)⟩
/-- An operation that yields v in every world that meets S, and calls nothing. -/
def YieldsHeld (P : Program) (ops : Array Oper) (S : World → Prop) (o : Oper) (v : Value) (a : Act) : Prop := YieldsIf P ops S o v a ∧ ∀ w, o.about P w a.eval = none
theorem YieldsHeld.take {i : Nat} {o : Oper} {v : Value} {a : Act} (hro : F.round = none) (hi : ops[i]? = some o) (hy : YieldsHeld P ops S o v a) {K : Act → World → Prop} {w : World} (hS : S w) (h : K (a.put o.dst v) w) : wpOpIn F n P ops Q i K a w := by
  have hab : ∀ f, o.about P w a.eval = some f → F.fn f := fun f hf => by rw [hy.2 w] at hf; cases hf
  unfold wpOpIn
  simp only [hi]
  rcases hy.1 with ⟨hw, hv⟩ | ⟨hw, rfl⟩
  · rw [if_pos hw]
    refine ⟨hab, ?_⟩
    rw [hro, Oper.semAt_none, hv w hS]
    exact h
  · rw [if_neg (by rw [hw]; simp)]
    exact ⟨hab, h⟩
theorem wpHeldIn_first {i : Nat} {oi : Oper} {v : Value} (hro : F.round = none) (hi : ops[i]? = some oi) (hsel : ∀ (j : Nat) (o : Oper) cs b, ops[j]? = some o → o.op ≠ .select cs b) (hQ : ∀ c a w, Q (.panic c) (a.put oi.dst v) w → Q (.panic c) a w) :
    ∀ (fuel : Nat) (listed : Array Bool) (a : Act) (w : World), (∀ j oj, ops[j]? = some oj → j ≠ i → listed.getD j true = false → (∀ e ∈ oj.after, Region.binds md e = true → e.on ≠ i) → oi.apart ops oj = true) →
      i ∈ Region.ready md ops listed → YieldsHeld P ops S oi v a → S w → wpHeldIn F n P md ops Q S fuel (listed.setIfInBounds i true) (a.put oi.dst v) w → wpHeldIn F n P md ops Q S (fuel + 1) listed a w := by
  intro fuel
  induction fuel with
  | zero =>
    intro listed a w _ hr hy hS H
    refine ⟨fun h => absurd hr (by rw [h]; simp), fun j hj => ?_⟩
    by_cases hji : j = i
    · subst hji; exact hy.take hro hi hS ⟨hS, H⟩
    · exact absurd (ready_mono hj hji) (by rw [H.1]; simp)
  | succ fuel ih =>
    intro listed a w hfree hr hy hS H
    refine ⟨fun h => absurd hr (by rw [h]; simp), fun j hj => ?_⟩
    by_cases hji : j = i
    · subst hji; exact hy.take hro hi hS ⟨hS, H⟩
    obtain ⟨hun, oj, hoj, hall⟩ := mem_ready.1 hj
    have hno : ∀ e ∈ oj.after, Region.binds md e = true → e.on ≠ i := fun e he hb heq => by
      have q1 := hall e he hb
      have q0 := (mem_ready.1 hr).1
      rw [heq] at q1
      rcases Nat.lt_or_ge i listed.size with q | q
      · simp [q] at q0 q1; rw [q0] at q1; cases q1
      · simp [Array.getElem?_eq_none q] at q1
    have hap := hfree j oj hoj hji hun hno
    obtain ⟨-, -, p3⟩ := Oper.apart_spec hap
    have step := wpOpIn_swap (R := YieldsHeld P ops S oi v) hro hoj hap (fun cs b => hsel j oj cs b hoj) hQ
      (fun a u hy => ⟨hy.1.of_same (execOp_put oi (fun cs b => hsel i oi cs b hi) a oj.dst u p3) (wanted_put oi a oj.dst u p3), fun w => by rw [about_put oi w a oj.dst u p3]; exact hy.2 w⟩)
      (fun a d hy => ⟨hy.1.of_same rfl rfl, hy.2⟩) hy (H.2 j (ready_mono hj hji))
    refine wpOpIn_mono (fun a2 w2 h2 => ⟨h2.2.1, ih (listed.setIfInBounds j true) a2 w2 (fun k ok hk hki hku hkn => ?_) (ready_mono hr (Ne.symm hji)) h2.1 h2.2.1 ?_⟩) step
    · refine hfree k ok hk hki ?_ hkn
      by_cases hjk : j = k
      · subst hjk; exact hun
      · rwa [getD_set_ne true hjk] at hku
    · rw [Array.setIfInBounds_comm _ _ hji]; exact h2.2.2
theorem wpHeldIn_take {i : Nat} {oi : Oper} {v : Value} {fuel : Nat} {listed : Array Bool} {a : Act} {w : World} (hro : F.round = none) (hi : ops[i]? = some oi)
    (hs : Region.noSelect ops = true) (hf : Region.free md ops listed i = true) (hr : (Region.ready md ops listed).contains i = true)
    (hQ : ∀ c a w, Q (.panic c) (a.put oi.dst v) w → Q (.panic c) a w) (hy : YieldsIf P ops S oi v a) (hab : ∀ w, oi.about P w a.eval = none) (hS : S w)
    (h : wpHeldIn F n P md ops Q S fuel (listed.setIfInBounds i true) (a.put oi.dst v) w) : wpHeldIn F n P md ops Q S (fuel + 1) listed a w :=
  wpHeldIn_first hro hi (Region.noSelect_spec hs) hQ fuel listed a w (Region.free_spec hi hf) (by simpa using hr) ⟨hy, hab⟩ hS h
theorem wpHeldIn_done {listed : Array Bool} {a : Act} {w : World} (hr : Region.ready md ops listed = []) (h : Q .normal a w) : ∀ fuel, wpHeldIn F n P md ops Q S fuel listed a w
  | 0 => ⟨hr, h⟩
  | _ + 1 => ⟨fun _ => h, by rw [hr]; simp⟩
/-- One operation alone may come up. -/
theorem wpHeldIn_one {i : Nat} {o : Oper} {fuel : Nat} {listed : Array Bool} {a : Act} {w : World} (hr : Region.ready md ops listed = [i]) (ho : ops[i]? = some o)
    (h : ∀ K' : Act → World → Prop, Hid (∀ a w, S w → (S w → wpHeldIn F n P md ops Q S fuel (listed.setIfInBounds i true) a w) → K' a w) → if Region.wanted o (yielded ops a.tmps) = true then Oper.wpIn F n P o a w K' Q else (∀ f, o.about P w a.eval = some f → F.fn f) ∧ K' (a.put o.dst undef) w) : wpHeldIn F n P md ops Q S (fuel + 1) listed a w := by
  refine ⟨fun h0 => (by rw [hr] at h0; cases h0), fun j hj => ?_⟩
  rw [hr, List.mem_singleton] at hj
  subst hj
  exact wpOpIn_step ho (fun K' hK => h K' (Lib.hid (fun a w hS hW => hK a w ⟨hS, hW hS⟩)))
theorem wpIn_region_heldIn {id : Nat} {a : Act} {w : World} (hm : P.follows .mixedOrders = true) (hS : S w.drew)
    (h : S w.drew → wpHeldIn F n P .any ops Q S ops.size (Array.replicate ops.size false) a w.drew) : (Code.region id ops true).wpIn F n P Q a w :=
  wpIn_region_any hm (wpAnyIn_of_heldIn _ _ _ _ (h hS))
end
end Go
