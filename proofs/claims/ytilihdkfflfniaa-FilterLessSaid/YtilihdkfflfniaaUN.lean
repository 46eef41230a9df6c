/-
  The mathematics of curves and chains: what numbers become on their way through steps, and back.
-/
import Derived.Test.YtilihdkfflfniaaUM
namespace Go.Proofs.Ytilihdkfflfniaa

/-- Whether a number is within a limit. -/
def wib (x most : Int) : Bool := decide (-most ≤ x) && decide (x ≤ most)
/-- A curve, as numbers. -/
structure Cur where
  feed : List Int
  back : List Int
  share : Int
/-- What a curve adds to a number, when these moments were before it. -/
def corS (c : Cur) (h : List (Int × Int)) : Int := sumTo c.feed (fun i => (hAt h i).1) c.feed.length + sumTo c.back (fun i => (hAt h i).2) c.back.length
def cor (c : Cur) (h : List (Int × Int)) : Int := corS c h / c.share
/-- The moment of a number: forwards (d), or back. -/
def mom (d : Bool) (c : Cur) (h : List (Int × Int)) (v : Int) : Int × Int := if d then (v, v + cor c h) else (v - cor c h, v)
def outM (d : Bool) (m : Int × Int) : Int := if d then m.2 else m.1
/-- One number through all steps: their moments behind it, and what it becomes, if nothing was too great. -/
def pass (d : Bool) (most : Int) : List Cur → List (List (Int × Int)) → Int → List (List (Int × Int)) × Option Int
  | c :: cs, h :: hs, v =>
    let m := mom d c h v
    if wib (outM d m) most = true then ((m :: h) :: (pass d most cs hs (outM d m)).1, (pass d most cs hs (outM d m)).2) else ((m :: h) :: hs, none)
  | _, hs, v => (hs, some v)
/-- Numbers through all steps. -/
def thr (d : Bool) (most : Int) (cs : List Cur) : List (List (Int × Int)) → List Int → Option (List Int)
  | _, [] => some []
  | hs, v :: vs =>
    match pass d most cs hs v with
    | (hs', some o) => (thr d most cs hs' vs).map (o :: ·)
    | (_, none) => none
/-- Numbers through one step. -/
def run1 (d : Bool) (most : Int) (c : Cur) : List (Int × Int) → List Int → Option (List Int)
  | _, [] => some []
  | h, v :: vs => if wib (outM d (mom d c h v)) most = true then (run1 d most c (mom d c h v :: h) vs).map (outM d (mom d c h v) :: ·) else none
theorem thr_one (d : Bool) (most : Int) (c : Cur) (x : List Int) : ∀ h, thr d most [c] [h] x = run1 d most c h x := by
  induction x with
  | nil => intro h; rfl
  | cons v vs ih =>
    intro h
    unfold thr run1 pass
    dsimp only
    by_cases hw : wib (outM d (mom d c h v)) most = true
    · rw [if_pos hw, if_pos hw]
      show (thr d most [c] [mom d c h v :: h] vs).map (outM d (mom d c h v) :: ·) = _
      rw [ih]
    · rw [if_neg hw, if_neg hw]
theorem mom_turn (d : Bool) (c : Cur) (h : List (Int × Int)) (v : Int) : mom (!d) c h (outM d (mom d c h v)) = mom d c h v ∧ outM (!d) (mom d c h v) = v := by
  cases d
  · simp [mom, outM]
  · simp [mom, outM]
/-- What went through is found again on the way back. -/
theorem run1_back {d : Bool} {most : Int} {c : Cur} {x : List Int} (hx : ∀ v ∈ x, wib v most = true) : ∀ {h y}, run1 d most c h x = some y → run1 (!d) most c h y = some x ∧ y.length = x.length ∧ ∀ v ∈ y, wib v most = true := by
  induction x with
  | nil => intro h y e; unfold run1 at e; cases e; exact ⟨rfl, rfl, fun v hv => (by cases hv)⟩
  | cons v vs ih =>
    intro h y e
    unfold run1 at e
    by_cases hw : wib (outM d (mom d c h v)) most = true
    · rw [if_pos hw] at e
      cases hr : run1 d most c (mom d c h v :: h) vs with
      | none => rw [hr] at e; cases e
      | some z =>
        rw [hr] at e
        simp only [Option.map_some, Option.some.injEq] at e
        obtain rfl := e
        obtain ⟨i1, i2, i3⟩ := ih (fun u hu => hx u (List.mem_cons_of_mem _ hu)) hr
        obtain ⟨t1, t2⟩ := mom_turn d c h v
        refine ⟨?_, by simp [i2], fun u hu => ?_⟩
        · unfold run1
          rw [t1, t2, if_pos (hx v (by simp)), i1]; rfl
        · rcases List.mem_cons.1 hu with rfl | hu
          · exact hw
          · exact i3 u hu
    · rw [if_neg hw] at e; cases e
end Go.Proofs.Ytilihdkfflfniaa
