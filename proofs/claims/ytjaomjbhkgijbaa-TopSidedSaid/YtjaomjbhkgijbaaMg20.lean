/-
  Examples of layer 3, reckoned: a cut, and its least radius.
-/
import Derived.Test.YtjaomjbhkgijbaaMg13
import Derived.Test.YtjaomjbhkgijbaaMg19
import Derived.Test.YtjaomjbhkgijbaaMg1
import Derived.StillTailTactics
import Derived.Deep.QuietTactic
import Derived.BigQuiet
import Derived.Deep.DeepCutAuto

namespace Go.Proofs.Ytjaomjbhkgijbaa
open Go.RowKit

def exC : Ctr := ⟨400, 2000, 200, 2000, 1000, 1000, 100⟩
def wkS : List Smp := [(0, 0), (100, 100), (0, 0)]
def wkL : List Smp := [(-400, 400), (-200, 600), (-400, 400)]
theorem wk_er : cutEr exC wkS = 0 := by decide
theorem wk_res : cutRes exC wkS = wkL := by decide
theorem exC_ok : CtOk exC := ctOk_of (by decide)
theorem ls_val {c : Ctr} {l : List Smp} {per a v er : Int} (he : lsEr c l per = 0) (hc : CtOk c) (h1 : 1 ≤ per) (h2 : per ≤ 65536) (ha : 1 ≤ a) (ha' : a ≤ 4194304) (ht : fls c l a per = true) (hf : fls c l (a - 1) per = false) (h : lsQ c l per v er) : v = a ∧ er = 0 := by
  unfold lsQ at h
  rw [if_pos he] at h
  refine h.uniq (.inl ⟨rfl, by omega, ha', ht, fun q q1 q2 => ?_⟩)
  show fls c l q per = false
  cases hq : fls c l q per
  · rfl
  · have h3 : fls c l (a - 1) per = true := fls_mono hc h1 h2 q (a - 1) q1 (by omega) (by omega) hq
    rw [hf] at h3; cases h3
theorem wk_least {v er : Int} (h : lsQ exC wkL 1000 v er) : v = 31831 ∧ er = 0 :=
  ls_val (by decide) exC_ok (by omega) (by omega) (by omega) (by omega) (by decide) (by decide) h
end Go.Proofs.Ytjaomjbhkgijbaa

/-
  The mathematics of a filter's memory: a ring of eight moments, the correction, the quotient that is rounded down.
-/
namespace Go.Proofs.Ytjaomjbhkgijbaa

/-- The moment after which i others were remembered; none: zeros. -/
def hAt (h : List (Int × Int)) (i : Nat) : Int × Int := h[i]?.getD (0, 0)
/-- What lies at a place of the ring, when the next place is nx. -/
def ringAt (h : List (Int × Int)) (nx s : Nat) : Int × Int := hAt h ((nx + 7 - s) % 8)
theorem ring_ago (h : List (Int × Int)) {nx i : Nat} (hn : nx < 8) (hi : i < 8) : ringAt h nx ((nx + 7 - i) % 8) = hAt h i := by
  unfold ringAt; congr 1; omega
theorem ring_rem (h : List (Int × Int)) (m : Int × Int) {nx s : Nat} (hn : nx < 8) (hs : s < 8) : ringAt (m :: h) ((nx + 1) % 8) s = if s = nx then m else ringAt h nx s := by
  unfold ringAt hAt
  split
  · rename_i e
    rw [show ((nx + 1) % 8 + 7 - s) % 8 = 0 by omega]; rfl
  · rename_i e
    obtain ⟨a, ha⟩ : ∃ a, (nx + 7 - s) % 8 = a := ⟨_, rfl⟩
    rw [ha, show ((nx + 1) % 8 + 7 - s) % 8 = a + 1 by omega, List.getElem?_cons_succ]
/-- The ring as it lies in memory. -/
def ringCells (h : List (Int × Int)) (nx : Nat) : List Value := (List.range 8).flatMap fun s => [.int .i64 (ringAt h nx s).1, .int .i64 (ringAt h nx s).2]
theorem ring_zero : ringCells [] 0 = List.replicate 16 (.int .i64 0) := by rfl
theorem ringCells_length (h : List (Int × Int)) (nx : Nat) : (ringCells h nx).length = 16 := by rfl
/-- Storing a moment at the next place. -/
theorem ring_store (h : List (Int × Int)) (m : Int × Int) {nx : Nat} (hn : nx < 8) :
    ((ringCells h nx).set (nx * 2) (.int .i64 m.1)).set (nx * 2 + 1) (.int .i64 m.2) = ringCells (m :: h) ((nx + 1) % 8) := by
  have key : ∀ s, s < 8 → ringAt (m :: h) ((nx + 1) % 8) s = if s = nx then m else ringAt h nx s := fun s hs => ring_rem h m hn hs
  have e : ∀ h nx, ringCells h nx = [.int .i64 (ringAt h nx 0).1, .int .i64 (ringAt h nx 0).2, .int .i64 (ringAt h nx 1).1, .int .i64 (ringAt h nx 1).2, .int .i64 (ringAt h nx 2).1, .int .i64 (ringAt h nx 2).2, .int .i64 (ringAt h nx 3).1, .int .i64 (ringAt h nx 3).2, .int .i64 (ringAt h nx 4).1, .int .i64 (ringAt h nx 4).2, .int .i64 (ringAt h nx 5).1, .int .i64 (ringAt h nx 5).2, .int .i64 (ringAt h nx 6).1, .int .i64 (ringAt h nx 6).2, .int .i64 (ringAt h nx 7).1, .int .i64 (ringAt h nx 7).2] := fun _ _ => rfl
  rw [e, e, key 0 (by omega), key 1 (by omega), key 2 (by omega), key 3 (by omega), key 4 (by omega), key 5 (by omega), key 6 (by omega), key 7 (by omega)]
  have hc : nx = 0 ∨ nx = 1 ∨ nx = 2 ∨ nx = 3 ∨ nx = 4 ∨ nx = 5 ∨ nx = 6 ∨ nx = 7 := by omega
  rcases hc with rfl | rfl | rfl | rfl | rfl | rfl | rfl | rfl <;> rfl
theorem ring_cell (h : List (Int × Int)) {nx s : Nat} (hs : s < 8) : (ringCells h nx)[s * 2]? = some (.int .i64 (ringAt h nx s).1) ∧ (ringCells h nx)[s * 2 + 1]? = some (.int .i64 (ringAt h nx s).2) := by
  have hc : s = 0 ∨ s = 1 ∨ s = 2 ∨ s = 3 ∨ s = 4 ∨ s = 5 ∨ s = 6 ∨ s = 7 := by omega
  rcases hc with rfl | rfl | rfl | rfl | rfl | rfl | rfl | rfl <;> exact ⟨rfl, rfl⟩

/-- A sum of weights times numbers. -/
def sumTo (ws : List Int) (f : Nat → Int) : Nat → Int
  | 0 => 0
  | k + 1 => sumTo ws f k + ws[k]?.getD 0 * f k
theorem sumTo_bd {ws : List Int} {f : Nat → Int} {W F : Int} (hw : ∀ x ∈ ws, -W ≤ x ∧ x ≤ W) (h0 : 0 ≤ W) (hf : ∀ i, -F ≤ f i ∧ f i ≤ F) (k : Nat) : -(k * (W * F)) ≤ sumTo ws f k ∧ sumTo ws f k ≤ k * (W * F) := by
  have hF : 0 ≤ F := by have := hf 0; omega
  have hp : 0 ≤ W * F := Int.mul_nonneg h0 hF
  induction k with
  | zero => simp [sumTo]
  | succ k ih =>
    have hx : -W ≤ ws[k]?.getD 0 ∧ ws[k]?.getD 0 ≤ W := by
      cases h : ws[k]? with
      | none => simp; omega
      | some x => exact hw x (List.mem_of_getElem? h)
    have h1 := hf k
    have hb : -(W * F) ≤ ws[k]?.getD 0 * f k ∧ ws[k]?.getD 0 * f k ≤ W * F := by
      obtain ⟨x, hxx⟩ : ∃ x, ws[k]?.getD 0 = x := ⟨_, rfl⟩
      obtain ⟨y, hy⟩ : ∃ y, f k = y := ⟨_, rfl⟩
      rw [hxx] at hx ⊢
      rw [hy] at h1 ⊢
      rcases Int.le_total 0 x with h2 | h2 <;> rcases Int.le_total 0 y with h3 | h3
      · have a := Int.mul_le_mul hx.2 h1.2 h3 h0
        have b := Int.mul_nonneg h2 h3
        omega
      · have a := Int.mul_le_mul hx.2 (show -y ≤ F by omega) (by omega) h0
        have b := Int.mul_nonneg h2 (show 0 ≤ -y by omega)
        rw [Int.mul_neg] at a b; omega
      · have a := Int.mul_le_mul (show -x ≤ W by omega) h1.2 h3 h0
        have b := Int.mul_nonneg (show 0 ≤ -x by omega) h3
        rw [Int.neg_mul] at a b; omega
      · have a := Int.mul_le_mul (show -x ≤ W by omega) (show -y ≤ F by omega) (by omega) h0
        have b := Int.mul_nonneg (show 0 ≤ -x by omega) (show 0 ≤ -y by omega)
        rw [Int.neg_mul_neg] at a b; omega
    unfold sumTo
    have e : ((k + 1 : Nat) : Int) * (W * F) = (k : Int) * (W * F) + W * F := by rw [Int.natCast_add, Int.add_mul]; simp
    rw [e]; omega
/-- Go's quotient, rounded down. -/
theorem quo_down {a b : Int} (hb : 0 < b) : (if a.tmod b < 0 then a.tdiv b - 1 else a.tdiv b) = a / b := by
  have h1 : b * a.tdiv b + a.tmod b = a := by rw [Int.tmod_def]; omega
  have h2 := Int.mul_ediv_add_emod a b
  have h3 := Int.emod_nonneg a (show b ≠ 0 by omega)
  have h4 := Int.emod_lt_of_pos a hb
  rcases Int.le_total 0 a with h | h
  · rw [Int.tdiv_eq_ediv_of_nonneg h, if_neg]
    rw [Int.tmod_eq_emod_of_nonneg h]; omega
  · have h5 : a.tmod b ≤ 0 := by
      have := Int.tmod_nonneg b (show 0 ≤ -a by omega)
      rw [Int.neg_tmod] at this; omega
    have h6 : -b < a.tmod b := by
      have := Int.tmod_lt_of_pos (-a) hb
      rw [Int.neg_tmod] at this; omega
    obtain ⟨q, hq⟩ : ∃ q, a.tdiv b = q := ⟨_, rfl⟩
    obtain ⟨r, hr⟩ : ∃ r, a.tmod b = r := ⟨_, rfl⟩
    obtain ⟨q', hq'⟩ : ∃ q, a / b = q := ⟨_, rfl⟩
    obtain ⟨r', hr'⟩ : ∃ r, a % b = r := ⟨_, rfl⟩
    rw [hq, hr] at h1
    rw [hr] at h5 h6
    rw [hq', hr'] at h2
    rw [hr'] at h3 h4
    rw [hq, hr, hq']
    have key : ∀ d : Int, b * q + r = b * q' + r' → q - q' = d → r' - r = b * d := by
      intro d e1 e2
      have : q = q' + d := by omega
      rw [this, Int.mul_add] at e1; omega
    have e := key (q - q') (by omega) rfl
    have hd : q - q' = 0 ∨ q - q' = 1 := by
      rcases Int.lt_or_le (q - q') 0 with h7 | h7
      · have : b * (q - q') ≤ b * (-1) := Int.mul_le_mul_of_nonneg_left (by omega) (by omega)
        omega
      · rcases Int.lt_or_le 1 (q - q') with h8 | h8
        · have : b * 2 ≤ b * (q - q') := Int.mul_le_mul_of_nonneg_left (by omega) (by omega)
          omega
        · omega
    rcases hd with hd | hd
    · rw [hd] at e
      rw [if_neg (by omega)]; omega
    · rw [hd] at e
      rw [if_pos (by omega)]; omega
end Go.Proofs.Ytjaomjbhkgijbaa

/-
  The mathematics of curves and chains: what numbers become on their way through steps, and back.
-/
namespace Go.Proofs.Ytjaomjbhkgijbaa

/-- Whether a number is within a limit. -/
def wib (x most : Int) : Bool := decide (-most ≤ x) && decide (x ≤ most)
/-- A curve, as numbers. -/
structure Cur where
  feed : List Int
  back : List Int
  share : Int
/-- What a curve adds to a number, when these moments were before it. -/
def corS (c : Cur) (h : List (Int × Int)) : Int := sumTo c.feed (fun i => (hAt h i).1) c.feed.length + sumTo c.back (fun i => (hAt h i).2) c.back.length
def cor (c : Cur) (h : List (Int × Int)) : Int := corS c h / c.share
/-- The moment of a number: forwards (d), or back. -/
def mom (d : Bool) (c : Cur) (h : List (Int × Int)) (v : Int) : Int × Int := if d then (v, v + cor c h) else (v - cor c h, v)
def outM (d : Bool) (m : Int × Int) : Int := if d then m.2 else m.1
/-- One number through all steps: their moments behind it, and what it becomes, if nothing was too great. -/
def pass (d : Bool) (most : Int) : List Cur → List (List (Int × Int)) → Int → List (List (Int × Int)) × Option Int
  | c :: cs, h :: hs, v =>
    let m := mom d c h v
    if wib (outM d m) most = true then ((m :: h) :: (pass d most cs hs (outM d m)).1, (pass d most cs hs (outM d m)).2) else ((m :: h) :: hs, none)
  | _, hs, v => (hs, some v)
/-- Numbers through all steps. -/
def thr (d : Bool) (most : Int) (cs : List Cur) : List (List (Int × Int)) → List Int → Option (List Int)
  | _, [] => some []
  | hs, v :: vs =>
    match pass d most cs hs v with
    | (hs', some o) => (thr d most cs hs' vs).map (o :: ·)
    | (_, none) => none
/-- Numbers through one step. -/
def run1 (d : Bool) (most : Int) (c : Cur) : List (Int × Int) → List Int → Option (List Int)
  | _, [] => some []
  | h, v :: vs => if wib (outM d (mom d c h v)) most = true then (run1 d most c (mom d c h v :: h) vs).map (outM d (mom d c h v) :: ·) else none
theorem thr_one (d : Bool) (most : Int) (c : Cur) (x : List Int) : ∀ h, thr d most [c] [h] x = run1 d most c h x := by
  induction x with
  | nil => intro h; rfl
  | cons v vs ih =>
    intro h
    unfold thr run1 pass
    dsimp only
    by_cases hw : wib (outM d (mom d c h v)) most = true
    · rw [if_pos hw, if_pos hw]
      show (thr d most [c] [mom d c h v :: h] vs).map (outM d (mom d c h v) :: ·) = _
      rw [ih]
    · rw [if_neg hw, if_neg hw]
theorem mom_turn (d : Bool) (c : Cur) (h : List (Int × Int)) (v : Int) : mom (!d) c h (outM d (mom d c h v)) = mom d c h v ∧ outM (!d) (mom d c h v) = v := by
  cases d
  · simp [mom, outM]
  · simp [mom, outM]
/-- What went through is found again on the way back. -/
theorem run1_back {d : Bool} {most : Int} {c : Cur} {x : List Int} (hx : ∀ v ∈ x, wib v most = true) : ∀ {h y}, run1 d most c h x = some y → run1 (!d) most c h y = some x ∧ y.length = x.length ∧ ∀ v ∈ y, wib v most = true := by
  induction x with
  | nil => intro h y e; unfold run1 at e; cases e; exact ⟨rfl, rfl, fun v hv => (by cases hv)⟩
  | cons v vs ih =>
    intro h y e
    unfold run1 at e
    by_cases hw : wib (outM d (mom d c h v)) most = true
    · rw [if_pos hw] at e
      cases hr : run1 d most c (mom d c h v :: h) vs with
      | none => rw [hr] at e; cases e
      | some z =>
        rw [hr] at e
        simp only [Option.map_some, Option.some.injEq] at e
        obtain rfl := e
        obtain ⟨i1, i2, i3⟩ := ih (fun u hu => hx u (List.mem_cons_of_mem _ hu)) hr
        obtain ⟨t1, t2⟩ := mom_turn d c h v
        refine ⟨?_, by simp [i2], fun u hu => ?_⟩
        · unfold run1
          rw [t1, t2, if_pos (hx v (by simp)), i1]; rfl
        · rcases List.mem_cons.1 hu with rfl | hu
          · exact hw
          · exact i3 u hu
    · rw [if_neg hw] at e; cases e
end Go.Proofs.Ytjaomjbhkgijbaa

/-
  Contracts of within, quotient, turn and ago of package filter.
-/
namespace Go.Proofs.Ytjaomjbhkgijbaa
open Go.RowKit

set_option maxHeartbeats 400000 in
theorem fwithin_any (x m : Int) (w : World) (h0 : 0 ≤ m) (h1 : m ≤ 1099511627776) :
    Calls Try.prog 169 #[.int .i64 x, .int .i64 m] w fun e w' => e = .returned (.bool (wib x m)) ∧ w = w' := by
  have e0 : IntKind.i64.wrap (-m) = -m := IntWalk.i64_in _ (by omega)
  by_cases h1 : -m ≤ x <;> by_cases h2 : x ≤ m
  all_goals
    go_enter Try.func169, Try.ntmps169
    go_wp2
    go_ret
    exact ⟨by simp [wib, h1, h2], rfl⟩

set_option maxHeartbeats 400000 in
theorem fquotient_any (a b : Int) (w : World) (hb : 0 < b) (hb2 : b ≤ 1099511627776) (h0 : -1152921504606846976 ≤ a) (h1 : a ≤ 1152921504606846976) :
    Calls Try.prog 189 #[.int .i64 a, .int .i64 b] w fun e w' => e = .returned (.int .i64 (a / b)) ∧ w = w' := by
  have hq := quo_down (a := a) hb
  have hbd : -1152921504606846976 ≤ a.tdiv b ∧ a.tdiv b ≤ 1152921504606846976 := by
    rcases Int.le_total 0 a with h | h
    · rw [Int.tdiv_eq_ediv_of_nonneg h]
      have := Int.ediv_nonneg h (show 0 ≤ b by omega)
      have := Int.ediv_le_self b h
      omega
    · have e : a.tdiv b = -((-a).tdiv b) := by rw [Int.neg_tdiv, Int.neg_neg]
      rw [e, Int.tdiv_eq_ediv_of_nonneg (show 0 ≤ -a by omega)]
      have := Int.ediv_nonneg (show 0 ≤ -a by omega) (show 0 ≤ b by omega)
      have := Int.ediv_le_self b (show 0 ≤ -a by omega)
      omega
  have hbt : -b < a.tmod b ∧ a.tmod b < b := ⟨by
      rcases Int.le_total 0 a with h | h
      · have := Int.tmod_nonneg b h; omega
      · have := Int.tmod_lt_of_pos (-a) hb
        rw [Int.neg_tmod] at this; omega, Int.tmod_lt_of_pos a hb⟩
  obtain ⟨q, hqq⟩ : ∃ q, a.tdiv b = q := ⟨_, rfl⟩
  obtain ⟨r, hr⟩ : ∃ q, a.tmod b = q := ⟨_, rfl⟩
  rw [hqq, hr] at hq
  rw [hqq] at hbd
  rw [hr] at hbt
  have e0 : IntKind.i64.wrap q = q := IntWalk.i64_in _ (by omega)
  have e1 : IntKind.i64.wrap (q - 1) = q - 1 := IntWalk.i64_in _ (by omega)
  have e2 : IntKind.i64.wrap r = r := IntWalk.i64_in _ (by omega)
  have nb : ¬ b = 0 := by omega
  have HQ := Lib.hid hq
  clear hq hbd hbt
  by_cases hr0 : r < 0
  · go_enter Try.func189, Try.ntmps189
    go_wp2
    go_ret
    have hfin : q - 1 = a / b := by have h := HQ.out; rw [if_pos (by omega)] at h; exact h
    exact ⟨ret_i hfin, rfl⟩
  · go_enter Try.func189, Try.ntmps189
    go_wp2
    go_ret
    have hfin : q = a / b := by have h := HQ.out; rw [if_neg (by omega)] at h; exact h
    exact ⟨ret_i hfin, rfl⟩

/-- A curve that runs, as it lies in memory: the ring, the next place, the lists, the share. -/
def stC (h : List (Int × Int)) (nx : Nat) (F B : Value) (sh : Int) : Array Value := (ringCells h nx ++ [.int .i64 nx, F, B, .int .i64 sh]).toArray
abbrev St (w : World) (g : Nat) (h : List (Int × Int)) (nx : Nat) (F B : Value) (sh : Int) : Prop := Blk w g 201 (stC h nx F B sh)
section
variable {w : World} {g : Nat} {h : List (Int × Int)} {nx : Nat} {F B : Value} {sh : Int}
theorem St.next (hs : St w g h nx F B sh) : w.cell? ⟨g, 16, none⟩ = some (.int .i64 nx) := (hs.cell 16).trans rfl
theorem St.feed (hs : St w g h nx F B sh) : w.cell? ⟨g, 17, none⟩ = some F := (hs.cell 17).trans rfl
theorem St.back (hs : St w g h nx F B sh) : w.cell? ⟨g, 18, none⟩ = some B := (hs.cell 18).trans rfl
theorem St.shr (hs : St w g h nx F B sh) : w.cell? ⟨g, 19, none⟩ = some (.int .i64 sh) := (hs.cell 19).trans rfl
theorem St.kept (hs : St w g h nx F B sh) {s : Nat} (h8 : s < 8) : w.cell? ⟨g, s * 2, none⟩ = some (.int .i64 (ringAt h nx s).1) ∧ w.cell? ⟨g, s * 2 + 1, none⟩ = some (.int .i64 (ringAt h nx s).2) := by
  obtain ⟨h1, h2⟩ := ring_cell h (nx := nx) h8
  have hl := ringCells_length h nx
  constructor
  · rw [hs.cell]
    unfold stC
    rw [List.getElem?_toArray, List.getElem?_append_left (by omega)]; exact h1
  · rw [hs.cell]
    unfold stC
    rw [List.getElem?_toArray, List.getElem?_append_left (by omega)]; exact h2
end

set_option maxRecDepth 100000 in
set_option maxHeartbeats 1000000 in
theorem ago_any (g nx i : Nat) (h : List (Int × Int)) (F B : Value) (sh : Int) (w : World) (hs : St w g h nx F B sh) (hn : nx < 8) (hi : i < 8) :
    Calls Try.prog 190 #[.pointer (some ⟨g, 0, none⟩), .int .i64 i] w fun e w' => e = .returned (.agg #[.int .i64 (hAt h i).1, .int .i64 (hAt h i).2]) ∧ Below w.heap.size w w' := by
  have e1 : IntKind.i64.wrap ((nx : Int) + 8) = (nx : Int) + 8 := IntWalk.i64_in _ (by omega)
  have e2 : IntKind.i64.wrap ((nx : Int) + 8 - 1) = (nx : Int) + 8 - 1 := IntWalk.i64_in _ (by omega)
  have e3 : IntKind.i64.wrap ((nx : Int) + 8 - 1 - (i : Int)) = (nx : Int) + 8 - 1 - (i : Int) := IntWalk.i64_in _ (by omega)
  obtain ⟨s, hs8⟩ : ∃ s, (nx + 7 - i) % 8 = s := ⟨_, rfl⟩
  have e4 : ((nx : Int) + 8 - 1 - (i : Int)) % 8 = (s : Int) := by omega
  have e5 : 0 ≤ (nx : Int) + 8 - 1 - (i : Int) := by omega
  have e6 : ((nx : Int) + 8 - 1 - (i : Int)).tmod 8 = (s : Int) := by rw [Int.tmod_eq_emod_of_nonneg e5]; exact e4
  have s8 : s < 8 := by omega
  have s8' : (s : Int) < 8 := by omega
  have HS8 := Lib.hid hs8
  have HS := Lib.hid hs
  have HI := Lib.hid hi
  have HN := Lib.hid hn
  obtain ⟨m, hm⟩ : ∃ m, hAt h i = m := ⟨_, rfl⟩
  rw [hm]
  have HM := Lib.hid hm
  clear hs8 hs hi hn hm
  go_enter Try.func190, Try.ntmps190
  go_wp2_with fail
  obtain ⟨W, hW⟩ : ∃ W, w.alloc (.cells #[.int .i64 0, .int .i64 0] 196) = W := ⟨_, rfl⟩
  have HSW : Hid (St W g h nx F B sh) := Lib.hid (by rw [← hW]; exact HS.out.alloc _)
  have HR : Hid (Blk W w.heap.size 196 #[.int .i64 0, .int .i64 0]) := Lib.hid (by rw [← hW]; exact Blk.new _ _ _)
  have HB : Hid (Below w.heap.size w W) := Lib.hid (by rw [← hW]; exact (Below.refl _ _).alloc (Nat.le_refl _) _)
  rw [hW]
  clear hW
  have p0 := HSW.out.next
  obtain ⟨p1, p2⟩ := HSW.out.kept (s := (nx + 7 - i) % 8) (by omega)
  rw [ring_ago h HN.out HI.out, HS8.out] at p1 p2
  rw [HM.out] at p1 p2
  obtain ⟨r0, r1, t0, t1, tl⟩ := HR.out.two
  have hg := HS.out.lt
  go_still_tail 14, (by kernel_rfl)
  change wpList _ _ _ _ _ W.drew
  go_wp2
  refine bodyPost_ret (v := .agg #[.int .i64 m.1, .int .i64 m.2]) ?_ rfl ⟨rfl, ?_⟩
  · have g1 := Blk.two (a := .int .i64 m.1) (b := .int .i64 0) (HR.out.set_ 0 (.int .i64 m.1))
    have g2 := Blk.two (a := .int .i64 m.1) (b := .int .i64 m.2) ((HR.out.set_ 0 (.int .i64 m.1)).set_ 1 (.int .i64 m.2))
    simp [results, Try.results190, go_sem, g1.1, g2.2.1]
  · exact ((HB.out.setCell (by simp <;> omega) _).setCell (by simp <;> omega) _).drew
theorem stC_store (h : List (Int × Int)) (m : Int × Int) {nx : Nat} (hn : nx < 8) (F B : Value) (sh : Int) :
    (((stC h nx F B sh).setIfInBounds (nx * 2) (.int .i64 m.1)).setIfInBounds (nx * 2 + 1) (.int .i64 m.2)).setIfInBounds 16 (.int .i64 ((nx + 1) % 8 : Nat)) = stC (m :: h) ((nx + 1) % 8) F B sh := by
  have hl := ringCells_length h nx
  have hl2 : ∀ a b, (((ringCells h nx).set a b)).length = 16 := fun a b => by rw [List.length_set, hl]
  unfold stC
  rw [List.setIfInBounds_toArray, List.setIfInBounds_toArray, List.setIfInBounds_toArray, List.set_append_left _ _ (by omega), List.set_append_left _ _ (by rw [hl2]; omega), ring_store h m hn,
    List.set_append_right _ _ (by rw [ringCells_length]; omega), ringCells_length]
  rfl
/-- What a call that remembers a moment leaves. -/
def RemPost (w : World) (g : Nat) (h : List (Int × Int)) (nx : Nat) (F B : Value) (sh : Int) (v : Value) (e : Ending) (w' : World) : Prop :=
  e = .returned v ∧ St w' g h nx F B sh ∧ w.grownBy w' (some g)
theorem grown_setS {w w0 : World} {g : Nat} (h : w0.grownBy w (some g)) (o : Nat) (u : Value) : w0.grownBy (w.setCell ⟨g, o, none⟩ u) (some g) :=
  ⟨h.os, h.tape, h.output, by simpa [World.setCell] using h.size, fun i hi hne => (Below.heap_setCell w ⟨g, o, none⟩ u i (fun e => hne (by rw [e]))).trans (h.block i hi hne)⟩
theorem grown_al {w w0 : World} {row : Option Nat} (h : w0.grownBy w row) (o : Obj) : w0.grownBy (w.alloc o) row :=
  ⟨h.os, h.tape, h.output, Nat.le_trans h.size (by simp), fun i hi hne => (Below.heap_alloc w o i (Nat.lt_of_lt_of_le hi h.size)).trans (h.block i hi hne)⟩
theorem grown_dr {w w0 : World} {row : Option Nat} (h : w0.grownBy w row) : w0.grownBy w.drew row := ⟨h.os, h.tape, h.output, h.size, h.block⟩

set_option maxRecDepth 100000 in
set_option maxHeartbeats 1000000 in
theorem remember_any (g nx : Nat) (m : Int × Int) (h : List (Int × Int)) (F B : Value) (sh : Int) (w : World) (hs : St w g h nx F B sh) (hn : nx < 8) :
    Calls Try.prog 168 #[.pointer (some ⟨g, 0, none⟩), .agg #[.int .i64 m.1, .int .i64 m.2]] w (RemPost w g (m :: h) ((nx + 1) % 8) F B sh (.tuple #[])) := by
  have e1 : IntKind.i64.wrap ((nx : Int) + 1) = (nx : Int) + 1 := IntWalk.i64_in _ (by omega)
  obtain ⟨s, hs8⟩ : ∃ s, (nx + 1) % 8 = s := ⟨_, rfl⟩
  have e3 : ((nx : Int) + 1) % 8 = (s : Int) := by omega
  have e2 : ((nx : Int) + 1).tmod 8 = (s : Int) := by rw [Int.tmod_eq_emod_of_nonneg (by omega)]; exact e3
  have n8 : (nx : Int) < 8 := by omega
  have s8 : (s : Int) < 8 := by omega
  rw [hs8]
  have HS8 := Lib.hid hs8
  clear hs8
  have HS := Lib.hid hs
  have HN := Lib.hid hn
  have hg := hs.lt
  clear hs
  go_enter Try.func168, Try.ntmps168
  go_wp2_with fail
  obtain ⟨W, hW⟩ : ∃ W, w.alloc (.cells #[.int .i64 m.1, .int .i64 m.2] 196) = W := ⟨_, rfl⟩
  have HSW : Hid (St W g h nx F B sh) := Lib.hid (by rw [← hW]; exact HS.out.alloc _)
  have HM : Hid (Blk W w.heap.size 196 #[.int .i64 m.1, .int .i64 m.2]) := Lib.hid (by rw [← hW]; exact Blk.new _ _ _)
  have HG : Hid (w.grownBy W (some g)) := Lib.hid (by rw [← hW]; exact grown_al (World.grownBy.refl w _) _)
  rw [hW]
  clear hW
  have p0 := HSW.out.next
  have q0 : W.cell? ⟨w.heap.size, 0, none⟩ = some (.int .i64 m.1) := (HM.out.cell 0).trans rfl
  have q1 : W.cell? ⟨w.heap.size, 1, none⟩ = some (.int .i64 m.2) := (HM.out.cell 1).trans rfl
  obtain ⟨k1, k2⟩ := HSW.out.kept (s := nx) HN.out
  have f1 := HSW.out.frozen (nx * 2)
  have f2 := HSW.out.frozen (nx * 2 + 1)
  go_still_tail 9, (by kernel_rfl)
  change wpList _ _ _ _ _ W.drew
  go_upto_region 2 with fail
  obtain ⟨V, hV⟩ : ∃ V, ((W.setCell ⟨g, nx * 2, none⟩ (.int .i64 m.1)).setCell ⟨g, nx * 2 + 1, none⟩ (.int .i64 m.2)).drew = V := ⟨_, rfl⟩
  have HV : Hid (Blk V g 201 (((stC h nx F B sh).setIfInBounds (nx * 2) (.int .i64 m.1)).setIfInBounds (nx * 2 + 1) (.int .i64 m.2))) := Lib.hid (by rw [← hV]; exact ((HSW.out.set_ _ _).set_ _ _).drew)
  replace HG : Hid (w.grownBy V (some g)) := Lib.hid (by rw [← hV]; exact grown_dr (grown_setS (grown_setS HG.out _ _) _ _))
  rw [hV]
  clear hV p0 q0 q1 k1 k2 f1 f2 HM HSW
  have p0 : V.cell? ⟨g, 16, none⟩ = some (.int .i64 nx) := by
    rw [HV.out.cell 16, Array.getElem?_setIfInBounds_ne (by have := HN.out; omega), Array.getElem?_setIfInBounds_ne (by have := HN.out; omega)]; rfl
  have f0 := HV.out.frozen 16
  refine wp_region_list ?_
  go_wp2
  refine bodyPost_ret (results_none rfl _ _ _) rfl ?_
  refine ⟨rfl, ?_, grown_setS HG.out _ _⟩
  exact (HV.out.set_ 16 _).cast (by rw [← HS8.out]; exact stC_store h m HN.out F B sh)
end Go.Proofs.Ytjaomjbhkgijbaa

