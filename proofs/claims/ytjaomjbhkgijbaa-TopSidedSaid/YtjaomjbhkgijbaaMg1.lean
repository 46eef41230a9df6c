/-
  Words for memory: slices that read as lists, kept blocks, samples, takes and parts as lists of cells.
-/
import Derived.Test.YtjaomjbhkgijbaaProg
import Derived.WalkKit
import Derived.WalkSpells
import Derived.WalkLawsBesides
import Derived.Laws.OwnMore
import Derived.Deep.AppendLies
import Derived.Deep.Draws
import Derived.Lib.Hide
import Derived.StillTailTactics
import Derived.Deep.QuietTactic
import Derived.BigQuiet
import Derived.Deep.RegionWith

namespace Go.Proofs.Ytjaomjbhkgijbaa
open Go.RowKit

theorem block_of_add (a : Addr) (n : Nat) : (a.add n).block = a.block := by unfold Addr.add; split <;> rfl
theorem add_of_add (a : Addr) (i j : Nat) : (a.add i).add j = a.add (i + j) := by
  unfold Addr.add
  by_cases hi : i = 0 <;> by_cases hj : j = 0 <;> simp [hi, hj, Nat.add_assoc]

theorem ret_b {a b : Bool} (h : a = b) : Ending.returned (.bool a) = .returned (.bool b) := by rw [h]
theorem ret_i {k : IntKind} {a b : Int} (h : a = b) : Ending.returned (.int k a) = .returned (.int k b) := by rw [h]

theorem below_drewN_ {B : Nat} {a w : World} (h : Below B a w) (n : Nat) : Below B a (w.drewN n) := ⟨h.os, h.tape, h.output, h.size, h.block⟩

/-- The slice value '.slice A n c' holds the cells xs (size cells an element) and lies below block B. -/
def Reads (w : World) (B size : Nat) (A : Option Addr) (n : Nat) (xs : List Value) : Prop :=
  xs.length = n * size ∧ (0 < n → ∃ ad, A = some ad ∧ ad.block < B ∧ ∀ j u, xs[j]? = some u → w.cell? (ad.add j) = some u)

section
variable {w w' : World} {B B' size n : Nat} {A : Option Addr} {xs : List Value}
theorem Reads.none_ : Reads w B size A 0 [] := ⟨by simp, fun h => absurd h (by omega)⟩
theorem Reads.keep (h : Reads w B size A n xs) (hk : ∀ p : Addr, p.block < B → w'.cell? p = w.cell? p) : Reads w' B size A n xs :=
  ⟨h.1, fun hn => by
    obtain ⟨ad, e, hb, hc⟩ := h.2 hn
    exact ⟨ad, e, hb, fun j u hu => (hk _ (by rw [block_of_add]; exact hb)).trans (hc j u hu)⟩⟩
theorem Reads.more (h : Reads w B size A n xs) (hB : B ≤ B') : Reads w B' size A n xs :=
  ⟨h.1, fun hn => by
    obtain ⟨ad, e, hb, hc⟩ := h.2 hn
    exact ⟨ad, e, by omega, hc⟩⟩
theorem Reads.below {B₁ : Nat} (h : Reads w B size A n xs) (hb : Below B₁ w w') (hB : B ≤ B₁) : Reads w' B size A n xs := h.keep fun _ hp => hb.cell (by omega)
end

/-- Block g is just the cells cs of element type t, none frozen. -/
def Blk (w : World) (g : Nat) (t : TypeId) (cs : Array Value) : Prop := w.heap[g]? = some (.cells cs t (0, 0))

section
variable {w w' : World} {g : Nat} {t : TypeId} {cs : Array Value}
theorem Blk.lt (h : Blk w g t cs) : g < w.heap.size := by
  rcases Nat.lt_or_ge g w.heap.size with hlt | hge
  · exact hlt
  · unfold Blk at h; rw [Array.getElem?_eq_none hge] at h; cases h
theorem Blk.cell (h : Blk w g t cs) (i : Nat) : w.cell? ⟨g, i, none⟩ = cs[i]? := cell_of_row w g i cs t (0, 0) h
theorem Blk.frozen (h : Blk w g t cs) (i : Nat) : w.frozen? ⟨g, i, none⟩ = false := by
  unfold Blk at h
  simp [World.frozen?, h]
theorem Blk.new (w : World) (t : TypeId) (cs : Array Value) : Blk (w.alloc (.cells cs t)) w.heap.size t cs := heap_alloc_new w _
theorem Blk.drew (h : Blk w g t cs) : Blk w.drew g t cs := h
theorem Blk.drewN (h : Blk w g t cs) (n : Nat) : Blk (w.drewN n) g t cs := h
theorem Blk.alloc (h : Blk w g t cs) (o : Obj) : Blk (w.alloc o) g t cs := (Below.heap_alloc w o g h.lt).trans h
theorem Blk.set_ (h : Blk w g t cs) (i : Nat) (u : Value) : Blk (w.setCell ⟨g, i, none⟩ u) g t (cs.setIfInBounds i u) := by
  unfold Blk at h ⊢
  simp [World.setCell, Array.getElem?_modify, h]
theorem Blk.far (h : Blk w g t cs) {p : Addr} (hp : g ≠ p.block) (u : Value) : Blk (w.setCell p u) g t cs := (Below.heap_setCell w p u g hp).trans h
theorem Blk.below {B : Nat} (h : Blk w g t cs) (hb : Below B w w') (hg : g < B) : Blk w' g t cs := (hb.block g hg).trans h
theorem Blk.grown {row : Option Nat} (h : Blk w g t cs) (hb : w.grownBy w' row) (hg : some g ≠ row) : Blk w' g t cs := (hb.block g h.lt hg).trans h
theorem Blk.cast {cs' : Array Value} (h : Blk w g t cs) (e : cs = cs') : Blk w g t cs' := e ▸ h
theorem Blk.one {a : Value} (h : Blk w g t #[a]) : w.cell? ⟨g, 0, none⟩ = some a ∧ w.frozen? ⟨g, 0, none⟩ = false ∧ g < w.heap.size :=
  ⟨(h.cell 0).trans rfl, h.frozen 0, h.lt⟩
theorem Blk.two {a b : Value} (h : Blk w g t #[a, b]) : w.cell? ⟨g, 0, none⟩ = some a ∧ w.cell? ⟨g, 1, none⟩ = some b ∧ w.frozen? ⟨g, 0, none⟩ = false ∧ w.frozen? ⟨g, 1, none⟩ = false ∧ g < w.heap.size :=
  ⟨(h.cell 0).trans rfl, (h.cell 1).trans rfl, h.frozen 0, h.frozen 1, h.lt⟩
end
end Go.Proofs.Ytjaomjbhkgijbaa

/-
  Samples as lists of cells, and which are valid.
-/
namespace Go.Proofs.Ytjaomjbhkgijbaa
open Go.RowKit

def win (x lo hi : Int) : Bool := decide (lo ≤ x) && decide (x ≤ hi)
def vs (l r : Int) : Bool := win l (-32767) 32767 && win r (-32767) 32767

/-- The amount of a number. -/
def am (x : Int) : Int := max x (-x)

abbrev Smp := Int × Int
def smpCells (xs : List Smp) : List Value := xs.flatMap fun s => [.int .i64 s.1, .int .i64 s.2]
theorem smpCells_length (xs : List Smp) : (smpCells xs).length = xs.length * 2 := by
  induction xs with
  | nil => rfl
  | cons x xs ih => simp [smpCells] at ih ⊢; omega
theorem smpCells_at (xs : List Smp) : ∀ (k : Nat) (h : k < xs.length), (smpCells xs)[k * 2]? = some (.int .i64 xs[k].1) ∧ (smpCells xs)[k * 2 + 1]? = some (.int .i64 xs[k].2) := by
  induction xs with
  | nil => intro k h; simp at h
  | cons x xs ih =>
    intro k h
    cases k with
    | zero => exact ⟨rfl, rfl⟩
    | succ k =>
      have := ih k (by simpa using h)
      rw [show (k + 1) * 2 = k * 2 + 2 from by omega]
      simpa [smpCells, List.getElem?_cons] using this

/-- '.slice A n c' reads as the samples xs. -/
def RS (w : World) (B : Nat) (A : Option Addr) (n : Nat) (xs : List Smp) : Prop := n = xs.length ∧ Reads w B 2 A n (smpCells xs)

theorem RS.below {w w' : World} {B B' : Nat} {A : Option Addr} {n : Nat} {xs : List Smp} (h : RS w B A n xs) (hb : Below B' w w') (hB : B ≤ B') : RS w' B A n xs := ⟨h.1, h.2.below hb hB⟩

theorem RS.more {w : World} {B B' : Nat} {A : Option Addr} {n : Nat} {xs : List Smp} (h : RS w B A n xs) (hB : B ≤ B') : RS w B' A n xs := ⟨h.1, h.2.more hB⟩

theorem RS.at_ {w : World} {B : Nat} {A : Option Addr} {n : Nat} {xs : List Smp} (h : RS w B A n xs) {k : Nat} (hk : k < xs.length) :
    ∃ ad, A = some ad ∧ ad.block < B ∧ w.cell? (ad.add (k * 2)) = some (.int .i64 xs[k].1) ∧ w.cell? ⟨(ad.add (k * 2)).block, (ad.add (k * 2)).off + 1, none⟩ = some (.int .i64 xs[k].2) := by
  obtain ⟨rfl, hr⟩ := h
  obtain ⟨ad, e, hb, hc⟩ := hr.2 (by omega)
  obtain ⟨h1, h2⟩ := smpCells_at xs k hk
  exact ⟨ad, e, hb, hc _ _ h1, by have := hc _ _ h2; rw [← add_of_add] at this; exact this⟩

def vss (xs : List Smp) : Bool := xs.all fun s => vs s.1 s.2

theorem vss_take (xs : List Smp) (k : Nat) (h : k < xs.length) : vss (xs.take (k + 1)) = (vss (xs.take k) && vs xs[k].1 xs[k].2) := by
  unfold vss
  rw [List.take_succ_eq_append_getElem h, List.all_append]; simp
theorem vss_false (xs : List Smp) (k : Nat) (h : k < xs.length) (hv : vs xs[k].1 xs[k].2 = false) : vss xs = false := by
  unfold vss
  rw [List.all_eq_false]
  exact ⟨xs[k], List.getElem_mem h, by simp [hv]⟩

/-- A number that an int64 holds. -/
def I64 (x : Int) : Prop := -9223372036854775808 ≤ x ∧ x ≤ 9223372036854775807
def I64s (xs : List Smp) : Prop := ∀ s ∈ xs, I64 s.1 ∧ I64 s.2
end Go.Proofs.Ytjaomjbhkgijbaa

/-
  Contracts of within, validSample, validSamples, CheckSamples.
-/
namespace Go.Proofs.Ytjaomjbhkgijbaa
open Go.RowKit

set_option maxHeartbeats 400000 in
theorem within64_any (x lo hi : Int) (w : World) :
    Calls Try.prog 145 #[.int .i64 x, .int .i64 lo, .int .i64 hi] w fun e w' => e = .returned (.bool (win x lo hi)) ∧ w = w' := by
  by_cases h1 : lo ≤ x <;> by_cases h2 : x ≤ hi
  all_goals
    go_enter Try.func145, Try.ntmps145
    go_wp2
    go_ret
    exact ⟨by simp [win, h1, h2], rfl⟩

set_option maxHeartbeats 400000 in
theorem within_any (x lo hi : Int) (w : World) :
    Calls Try.prog 146 #[.int .i64 x, .int .i64 lo, .int .i64 hi] w fun e w' => e = .returned (.bool (win x lo hi)) ∧ w = w' := by
  by_cases h1 : lo ≤ x <;> by_cases h2 : x ≤ hi
  all_goals
    go_enter Try.func146, Try.ntmps146
    go_wp2
    go_ret
    exact ⟨by simp [win, h1, h2], rfl⟩

set_option maxHeartbeats 400000 in
theorem validSample_any (l r : Int) (w : World) :
    Calls Try.prog 177 #[.agg #[.int .i64 l, .int .i64 r]] w fun e w' => e = .returned (.bool (vs l r)) ∧ Below w.heap.size w w' := by
  cases h1 : win l (-32767) 32767 <;> cases h2 : win r (-32767) 32767
  all_goals
    have H1 := Lib.hid h1
    have H2 := Lib.hid h2
    clear h1 h2
    go_enter Try.func177, Try.ntmps177
    go_wp2_with ((with_reducible refine (within64_any _ _ _ _).mono ?_); rintro e w' ⟨rfl, rfl⟩; (try rw [H1.out]); (try rw [H2.out]))
    go_ret
    exact ⟨by simp [vs, H1.out, H2.out], (Below.refl _ _).alloc (Nat.le_refl _) _⟩

end Go.Proofs.Ytjaomjbhkgijbaa

/-
  Contracts of validSamples, CheckSamples.
-/
namespace Go.Proofs.Ytjaomjbhkgijbaa
open Go.RowKit

set_option maxHeartbeats 400000 in
theorem validSamples_any (B : Nat) (A : Option Addr) (n c : Nat) (xs : List Smp) (w : World) (h0 : RS w B A n xs) (hB : B ≤ w.heap.size) (hl : n ≤ 9223372036854775807) :
    Calls Try.prog 139 #[.slice A n c] w fun e w' => e = .returned (.bool (vss xs)) ∧ Below w.heap.size w w' := by
  have H := Lib.hid (h0.more hB)
  obtain ⟨hn, -⟩ := h0
  clear hB
  have HN := Lib.hid hn
  clear hn
  go_enter Try.func139, Try.ntmps139
  go_wp2
  go_loopw [7] (fun i wr => ∃ k : Nat, k ≤ n ∧ i = .int .i64 k ∧ Below w.heap.size w wr ∧ vss (xs.take k) = true) (fun i wr => n - (intOf i).toNat)
  case atStart => exact ⟨0, Nat.zero_le _, rfl, Below.refl _ _, rfl⟩
  case round =>
    obtain ⟨k, hk, rfl, hb, hv⟩ := hrel
    by_cases hlt : k < n
    · obtain ⟨ad, hA, hbl, h1, h2⟩ := (H.out.below hb (Nat.le_refl _)).at_ (k := k) (by have := HN.out; omega)
      obtain rfl := hA
      cases hx : vs xs[k].1 xs[k].2
      all_goals
        have HX := Lib.hid hx
        clear hx
        go_wp2_with ((with_reducible refine (validSample_any _ _ _).mono ?_); rintro e w' ⟨rfl, hb1⟩; (try rw [HX.out]))
      · go_ret
        exact ⟨ret_b (vss_false xs k (by have := HN.out; omega) HX.out).symm, (hb.alloc hb.size _).trans (hb1.mono (by have := hb.size; simp; omega))⟩
      · go_roundw
        case rel =>
          refine ⟨k + 1, by omega, by go_num, (hb.alloc hb.size _).trans (hb1.mono (by have := hb.size; simp; omega)), ?_⟩
          rw [vss_take xs k (by have := HN.out; omega), hv, HX.out]; rfl
        case measure => simp [intOf]; omega
    · go_wp2
      go_ret
      rw [List.take_of_length_le (by have := HN.out; omega)] at hv
      exact ⟨ret_b hv.symm, hb⟩

/-- 0: fine · 6: too many · 2: not valid. -/
def ckS (xs : List Smp) : Int := if 4096 < xs.length then 6 else if vss xs then 0 else 2

set_option maxHeartbeats 400000 in
theorem CheckSamples_any (B : Nat) (A : Option Addr) (n c : Nat) (xs : List Smp) (w : World) (h0 : RS w B A n xs) (hB : B ≤ w.heap.size) (hl : n ≤ 9223372036854775807) :
    Calls Try.prog 127 #[.slice A n c] w fun e w' => e = .returned (.int .i64 (ckS xs)) ∧ Below w.heap.size w w' := by
  have H := Lib.hid (h0.more hB)
  obtain ⟨hn, -⟩ := h0
  clear hB
  by_cases h4 : 4096 < n
  · have hr : ckS xs = 6 := by unfold ckS; rw [if_pos (by omega)]
    have HR := Lib.hid hr
    clear hn hr
    go_enter Try.func127, Try.ntmps127
    go_wp2
    go_ret
    exact ⟨ret_i HR.out.symm, Below.refl _ _⟩
  · cases hv : vss xs
    all_goals
      have hr : ckS xs = if vss xs then 0 else 2 := by unfold ckS; rw [if_neg (by omega)]
      rw [hv] at hr
      have HR := Lib.hid hr
      have HV := Lib.hid hv
      clear hn hr hv
      go_enter Try.func127, Try.ntmps127
      go_wp2_with ((with_reducible refine (validSamples_any _ _ _ _ xs _ H.out (Nat.le_refl _) hl).mono ?_); rintro e w' ⟨rfl, hb1⟩; (try rw [HV.out]))
      go_ret
      exact ⟨ret_i HR.out.symm, hb1⟩

end Go.Proofs.Ytjaomjbhkgijbaa

/-
  The amount of a number, and the contract of the document's Amount.
-/
namespace Go.Proofs.Ytjaomjbhkgijbaa
open Go.RowKit

/-- The amount as Go reckons it for every int64. -/
def ram (x : Int) : Int := max x (wrap64 (-x))

set_option maxHeartbeats 400000 in
theorem refAmount_any (x : Int) (w : World) :
    Calls Try.prog 174 #[.int .i64 x] w fun e w' => e = .returned (.int .i64 (ram x)) ∧ w = w' := by
  go_enter Try.func174, Try.ntmps174
  go_wp2
  all_goals
    go_ret
    exact ⟨ret_i (by unfold ram; omega), rfl⟩

end Go.Proofs.Ytjaomjbhkgijbaa

/-
  Contracts of amount, square, add, quiet, both, gain, of.
-/
namespace Go.Proofs.Ytjaomjbhkgijbaa
open Go.RowKit

set_option maxHeartbeats 400000 in
theorem amount_any (x : Int) (w : World) (h1 : -9223372036854775807 ≤ x) (h2 : x ≤ 9223372036854775807) :
    Calls Try.prog 180 #[.int .i64 x] w fun e w' => e = .returned (.int .i64 (am x)) ∧ w = w' := by
  go_enter Try.func180, Try.ntmps180
  go_wp2
  all_goals
    go_ret
    exact ⟨ret_i (by unfold am; omega), rfl⟩

set_option maxHeartbeats 400000 in
theorem add_any (a b c d : Int) (w : World) :
    Calls Try.prog 138 #[.agg #[.int .i64 a, .int .i64 b], .agg #[.int .i64 c, .int .i64 d]] w fun e w' => e = .returned (.agg #[.int .i64 (wrap64 (a + c)), .int .i64 (wrap64 (b + d))]) ∧ Below w.heap.size w w' := by
  go_enter Try.func138, Try.ntmps138
  go_wp2
  exact bodyPost_ret (v := .agg #[.int .i64 (wrap64 (a + c)), .int .i64 (wrap64 (b + d))]) (by simp [results, Try.results138, go_sem]) rfl
    ⟨rfl, (((Below.refl _ _).alloc (Nat.le_refl _) _).alloc (by simp) _).alloc (by simp; omega) _⟩

set_option maxHeartbeats 400000 in
theorem of_any (x u d : Int) (w : World) (hd : 0 < d) (hd' : d ≤ 9223372036854775807) (hm : -9223372036854775807 ≤ x * u) (hm' : x * u ≤ 9223372036854775807) :
    Calls Try.prog 184 #[.agg #[.int .i64 u, .int .i64 d], .int .i64 x] w fun e w' => e = .returned (.int .i64 ((x * u).tdiv d)) ∧ Below w.heap.size w w' := by
  go_enter Try.func184, Try.ntmps184
  go_wp2
  go_ret
  exact ⟨ret_i rfl, (Below.refl _ _).alloc (Nat.le_refl _) _⟩

set_option maxHeartbeats 400000 in
theorem quiet_any (l r m : Int) (w : World) (h1 : -32767 ≤ l) (h2 : l ≤ 32767) (h3 : -32767 ≤ r) (h4 : r ≤ 32767) :
    Calls Try.prog 147 #[.agg #[.int .i64 l, .int .i64 r], .int .i64 m] w fun e w' => e = .returned (.bool (decide (am l ≤ m) && decide (am r ≤ m))) ∧ Below w.heap.size w w' := by
  by_cases h5 : am l ≤ m <;> by_cases h6 : am r ≤ m
  all_goals
    go_enter Try.func147, Try.ntmps147
    go_wp2_with ((with_reducible refine (amount_any _ _ (by omega) (by omega)).mono ?_); rintro e w' ⟨rfl, rfl⟩)
    go_ret
    exact ⟨ret_b (by simp [h5, h6]), (Below.refl _ _).alloc (Nat.le_refl _) _⟩

set_option maxHeartbeats 400000 in
theorem bothAmount_any (l r : Int) (w : World) (h1 : -32767 ≤ l) (h2 : l ≤ 32767) (h3 : -32767 ≤ r) (h4 : r ≤ 32767) :
    Calls Try.prog 182 #[.agg #[.int .i64 l, .int .i64 r], .func (.func 180) #[] #[]] w fun e w' => e = .returned (.agg #[.int .i64 (am l), .int .i64 (am r)]) ∧ Below w.heap.size w w' := by
  go_enter Try.func182, Try.ntmps182
  go_wp2
  go_region_with ((with_reducible refine (amount_any _ _ (by omega) (by omega)).mono ?_); rintro e w' ⟨rfl, rfl⟩)
  all_goals go_wp2
  all_goals refine bodyPost_ret (v := .agg #[.int .i64 (am l), .int .i64 (am r)]) ?_ rfl ⟨rfl, ?_⟩
  all_goals first | (simp [results, Try.results182, go_sem]; done) | exact (((Below.refl _ _).alloc (Nat.le_refl _) _).alloc (by simp) _).drew

theorem ckS_bd (xs : List Smp) (h : ckS xs = 0) (k : Nat) (hk : k < xs.length) : -32767 ≤ xs[k].1 ∧ xs[k].1 ≤ 32767 ∧ -32767 ≤ xs[k].2 ∧ xs[k].2 ≤ 32767 := by
  unfold ckS at h
  split at h
  · omega
  · split at h
    · rename_i hv
      unfold vss at hv
      rw [List.all_eq_true] at hv
      have := hv xs[k] (List.getElem_mem hk)
      simp [vs, win] at this
      omega
    · omega

end Go.Proofs.Ytjaomjbhkgijbaa

/-
  Contracts of the document's Valid and CheckSamples.
-/
namespace Go.Proofs.Ytjaomjbhkgijbaa
open Go.RowKit

theorem ram_eq (x : Int) (h : I64 x) : decide (ram x ≤ 32767 ∧ -1099511627776 < x) = win x (-32767) 32767 := by
  unfold I64 at h
  unfold ram win
  rw [← Bool.decide_and, decide_eq_decide]
  by_cases hm : x = -9223372036854775808
  · subst hm
    constructor
    · rintro ⟨_, h2⟩; exact absurd h2 (by decide)
    · rintro ⟨h2, _⟩; exact absurd h2 (by decide)
  · have : wrap64 (-x) = -x := by unfold wrap64; omega
    rw [this]; omega

set_option maxHeartbeats 1000000 in
theorem refValid_any (l r : Int) (w : World) (hl : I64 l) (hr : I64 r) :
    Calls Try.prog 125 #[.agg #[.int .i64 l, .int .i64 r]] w fun e w' => e = .returned (.bool (vs l r)) ∧ Below w.heap.size w w' := by
  have hv : vs l r = (decide (ram l ≤ 32767) && decide (ram r ≤ 32767) && decide (-1099511627776 < l) && decide (-1099511627776 < r)) := by
    unfold vs
    rw [← ram_eq l hl, ← ram_eq r hr, Bool.decide_and, Bool.decide_and]
    cases decide (ram l ≤ 32767) <;> cases decide (ram r ≤ 32767) <;> simp
  have HV := Lib.hid hv
  clear hv hl hr
  have hc : ¬ ram l ≤ 32767 ∨ (ram l ≤ 32767 ∧ ¬ ram r ≤ 32767) ∨ (ram l ≤ 32767 ∧ ram r ≤ 32767 ∧ ¬ -1099511627776 < l) ∨ (ram l ≤ 32767 ∧ ram r ≤ 32767 ∧ -1099511627776 < l ∧ ¬ -1099511627776 < r) ∨
      (ram l ≤ 32767 ∧ ram r ≤ 32767 ∧ -1099511627776 < l ∧ -1099511627776 < r) := by omega
  rcases hc with h1 | ⟨h1, h2⟩ | ⟨h1, h2, h3⟩ | ⟨h1, h2, h3, h4⟩ | ⟨h1, h2, h3, h4⟩
  all_goals
    go_enter Try.func125, Try.ntmps125
    go_wp2_with ((with_reducible refine (refAmount_any _ _).mono ?_); rintro e w' ⟨rfl, rfl⟩)
    go_ret
    exact ⟨ret_b (by rw [HV.out]; first | (simp [*]; done) | (simp; intros; omega)), (Below.refl _ _).alloc (Nat.le_refl _) _⟩

set_option maxHeartbeats 400000 in
theorem refCheckSamples_any (B : Nat) (A : Option Addr) (n c : Nat) (xs : List Smp) (w : World) (h0 : RS w B A n xs) (hB : B ≤ w.heap.size) (hl : n ≤ 9223372036854775807) (hi : I64s xs) :
    Calls Try.prog 129 #[.slice A n c] w fun e w' => e = .returned (.int .i64 (ckS xs)) ∧ Below w.heap.size w w' := by
  have H := Lib.hid (h0.more hB)
  obtain ⟨hn, -⟩ := h0
  clear hB
  have HN := Lib.hid hn
  by_cases h4 : 4096 < n
  · have hr : ckS xs = 6 := by unfold ckS; rw [if_pos (by omega)]
    have HR := Lib.hid hr
    clear hn hr
    go_enter Try.func129, Try.ntmps129
    go_wp2
    go_ret
    exact ⟨ret_i HR.out.symm, Below.refl _ _⟩
  · have hr : ckS xs = if vss xs then 0 else 2 := by unfold ckS; rw [if_neg (by omega)]
    have HR := Lib.hid hr
    clear hn hr
    go_enter Try.func129, Try.ntmps129
    go_wp2
    go_loopw [3] (fun i wr => ∃ k : Nat, k ≤ n ∧ i = .int .i64 k ∧ Below w.heap.size w wr ∧ vss (xs.take k) = true) (fun i wr => n - (intOf i).toNat)
    case atStart => exact ⟨0, Nat.zero_le _, rfl, Below.refl _ _, rfl⟩
    case round =>
      obtain ⟨k, hk, rfl, hb, hv⟩ := hrel
      by_cases hlt : k < n
      · obtain ⟨ad, hA, hbl, h1, h2⟩ := (H.out.below hb (Nat.le_refl _)).at_ (k := k) (by have := HN.out; omega)
        obtain rfl := hA
        have hi' := hi _ (List.getElem_mem (show k < xs.length by have := HN.out; omega))
        have HI1 := Lib.hid hi'.1
        have HI2 := Lib.hid hi'.2
        clear hi'
        cases hx : vs xs[k].1 xs[k].2
        all_goals
          have HX := Lib.hid hx
          clear hx
          go_wp2_with ((with_reducible refine (refValid_any _ _ _ HI1.out HI2.out).mono ?_); rintro e w' ⟨rfl, hb1⟩; (try rw [HX.out]))
        · go_ret
          exact ⟨ret_i (by rw [HR.out, vss_false xs k (by have := HN.out; omega) HX.out]; rfl), hb.trans (hb1.mono hb.size)⟩
        · go_roundw
          case rel =>
            refine ⟨k + 1, by omega, by go_num, hb.trans (hb1.mono hb.size), ?_⟩
            rw [vss_take xs k (by have := HN.out; omega), hv, HX.out]; rfl
          case measure => simp [intOf]; omega
      · go_wp2
        go_ret
        rw [List.take_of_length_le (by have := HN.out; omega)] at hv
        exact ⟨ret_i (by rw [HR.out, hv]; rfl), hb⟩

theorem ram_of_bd (x : Int) (h1 : -32767 ≤ x) (h2 : x ≤ 32767) : ram x = am x := by
  have : wrap64 (-x) = -x := by unfold wrap64; omega
  unfold ram am; rw [this]

end Go.Proofs.Ytjaomjbhkgijbaa

