/-
  Takes in memory; contracts of tooLong, validName, validTake.
-/
import Derived.Test.YtbcahkklhdnboaaA4
namespace Go.Proofs.Ytbcahkklhdnboaa
open Go.RowKit

/-- A take as it lies in memory: its name, its slice, what the slice holds. -/
structure TV where
  nm : ByteArray
  A : Option Addr
  n : Nat
  c : Nat
  xs : List Smp

def tvCells (l : List TV) : List Value := l.flatMap fun t => [.string t.nm, .slice t.A t.n t.c]
theorem tvCells_length (l : List TV) : (tvCells l).length = l.length * 2 := by
  induction l with
  | nil => rfl
  | cons x xs ih => simp [tvCells] at ih ⊢; omega
theorem tvCells_at (l : List TV) : ∀ (k : Nat) (h : k < l.length), (tvCells l)[k * 2]? = some (.string l[k].nm) ∧ (tvCells l)[k * 2 + 1]? = some (.slice l[k].A l[k].n l[k].c) := by
  induction l with
  | nil => intro k h; simp at h
  | cons x xs ih =>
    intro k h
    cases k with
    | zero => exact ⟨rfl, rfl⟩
    | succ k =>
      have := ih k (by simpa using h)
      rw [show (k + 1) * 2 = k * 2 + 2 from by omega]
      simpa [tvCells, List.getElem?_cons] using this

/-- '.slice A n c' reads as the takes l; each take's own slice reads, and lies below B. -/
def RT (w : World) (B : Nat) (A : Option Addr) (n : Nat) (l : List TV) : Prop :=
  n = l.length ∧ Reads w B 2 A n (tvCells l) ∧ ∀ t ∈ l, RS w B t.A t.n t.xs
theorem RT.below {w w' : World} {B B' : Nat} {A : Option Addr} {n : Nat} {l : List TV} (h : RT w B A n l) (hb : Below B' w w') (hB : B ≤ B') : RT w' B A n l :=
  ⟨h.1, h.2.1.below hb hB, fun t ht => (h.2.2 t ht).below hb hB⟩
theorem RT.more {w : World} {B B' : Nat} {A : Option Addr} {n : Nat} {l : List TV} (h : RT w B A n l) (hB : B ≤ B') : RT w B' A n l :=
  ⟨h.1, h.2.1.more hB, fun t ht => (h.2.2 t ht).more hB⟩
theorem RT.at_ {w : World} {B : Nat} {A : Option Addr} {n : Nat} {l : List TV} (h : RT w B A n l) {k : Nat} (hk : k < l.length) :
    ∃ ad, A = some ad ∧ ad.block < B ∧ w.cell? (ad.add (k * 2)) = some (.string l[k].nm) ∧ w.cell? ⟨(ad.add (k * 2)).block, (ad.add (k * 2)).off + 1, none⟩ = some (.slice l[k].A l[k].n l[k].c) ∧ RS w B l[k].A l[k].n l[k].xs := by
  obtain ⟨rfl, hr, hs⟩ := h
  obtain ⟨ad, e, hb, hc⟩ := hr.2 (by omega)
  obtain ⟨h1, h2⟩ := tvCells_at l k hk
  exact ⟨ad, e, hb, hc _ _ h1, by have := hc _ _ h2; rw [← add_of_add] at this; exact this, hs _ (List.getElem_mem hk)⟩

/-- Each slice is no longer than an int counts, each name too. -/
def TSm (l : List TV) : Prop := ∀ t ∈ l, t.n ≤ 9223372036854775807 ∧ t.nm.size ≤ 9223372036854775807

set_option maxHeartbeats 400000 in
theorem tooLong_any (t : TV) (w : World) :
    Calls Try.prog 39 #[.agg #[.string t.nm, .slice t.A t.n t.c]] w fun e w' => e = .returned (.bool (decide (4096 < t.n))) ∧ Below w.heap.size w w' := by
  by_cases h : 4096 < t.n
  all_goals
    go_enter Try.func39, Try.ntmps39
    go_wp2
    go_ret
    exact ⟨ret_b (by simp; omega), (Below.refl _ _).alloc (Nat.le_refl _) _⟩

def okc (c : UInt8) : Bool := (decide (97 ≤ (c.toNat : Int)) && decide ((c.toNat : Int) ≤ 122)) || (decide (48 ≤ (c.toNat : Int)) && decide ((c.toNat : Int) ≤ 57))
def vName (s : ByteArray) : Bool := decide (0 < s.size) && decide (s.size ≤ 20) && s.data.toList.all okc
theorem all_take (s : ByteArray) (k : Nat) (h : k < s.size) : (s.data.toList.take (k + 1)).all okc = ((s.data.toList.take k).all okc && okc s[k]) := by
  rw [List.take_succ_eq_append_getElem (by simpa using h), List.all_append]
  simp; rfl
theorem all_false (s : ByteArray) (k : Nat) (h : k < s.size) (hc : okc s[k] = false) : s.data.toList.all okc = false := by
  rw [List.all_eq_false]
  exact ⟨s[k], List.getElem_mem (by simpa using h), by simp [hc]⟩

set_option maxRecDepth 100000 in
set_option maxHeartbeats 1000000 in
theorem validName_any (s : ByteArray) (w : World) (hs : s.size ≤ 9223372036854775807) :
    Calls Try.prog 68 #[.string s] w fun e w' => e = .returned (.bool (vName s)) ∧ w = w' := by
  by_cases h1 : 0 < s.size
  · by_cases h2 : s.size ≤ 20
    · have h0 : ((s.size : Int) == 0) = false := beq_eq_false_iff_ne.2 (by omega)
      have h3 : ¬ (20 : Int) < (s.size : Int) := by omega
      go_enter Try.func68, Try.ntmps68
      go_wp2
      go_loop [16] (fun i => ∃ k : Nat, k ≤ s.size ∧ i = .int .i64 k ∧ Hid ((s.data.toList.take k).all okc = true)) (fun i => s.size - (intOf i).toNat)
      case atStart => exact ⟨0, Nat.zero_le _, rfl, Lib.hid rfl⟩
      case round =>
        obtain ⟨k, hk, rfl, hv⟩ := hrel
        by_cases hlt : k < s.size
        · by_cases c1 : 97 ≤ (s[k].toNat : Int) <;> by_cases c2 : (s[k].toNat : Int) ≤ 122 <;> by_cases c3 : 48 ≤ (s[k].toNat : Int) <;> by_cases c4 : (s[k].toNat : Int) ≤ 57 <;> first | omega | skip
          all_goals
            go_wp2
            first
            | (go_round
               case rel => exact ⟨k + 1, by omega, by go_num, Lib.hid (by rw [all_take s k hlt, hv.out]; simp [okc]; omega)⟩
               case measure => simp [intOf]; omega)
            | (go_ret
               exact ⟨ret_b (by simp only [vName]; rw [all_false s k hlt (by simp [okc]; omega)]; simp), rfl⟩)
        · go_wp2
          go_ret
          have hv' := hv.out
          rw [List.take_of_length_le (by simp; omega)] at hv'
          exact ⟨ret_b (by simp only [vName]; rw [hv']; simp; omega), rfl⟩
    · have h0 : ((s.size : Int) == 0) = false := beq_eq_false_iff_ne.2 (by omega)
      have h3 : (20 : Int) < (s.size : Int) := by omega
      go_enter Try.func68, Try.ntmps68
      go_wp2
      go_ret
      exact ⟨ret_b (by simp [vName, h2]), rfl⟩
  · have h0 : ((s.size : Int) == 0) = true := beq_iff_eq.2 (by omega)
    go_enter Try.func68, Try.ntmps68
    go_wp2
    go_ret
    exact ⟨ret_b (by simp [vName, h1]), rfl⟩

def vTake (t : TV) : Bool := vName t.nm && decide (0 < t.n) && decide (t.n ≤ 4096) && vss t.xs

set_option maxRecDepth 100000 in
set_option maxHeartbeats 1000000 in
theorem validTake_any (t : TV) (B : Nat) (w : World) (h0 : RS w B t.A t.n t.xs) (hB : B ≤ w.heap.size) (hn : t.n ≤ 9223372036854775807) (hs : t.nm.size ≤ 9223372036854775807) :
    Calls Try.prog 40 #[.agg #[.string t.nm, .slice t.A t.n t.c]] w fun e w' => e = .returned (.bool (vTake t)) ∧ Below w.heap.size w w' := by
  have H := Lib.hid (h0.more hB)
  clear h0 hB
  cases v1 : vName t.nm
  · have V1 := Lib.hid v1
    clear v1
    go_enter Try.func40, Try.ntmps40
    go_wp2_with ((with_reducible refine (validName_any _ _ hs).mono ?_); rintro e w1 ⟨rfl, rfl⟩; rw [V1.out])
    go_ret
    exact ⟨ret_b (by simp [vTake, V1.out]), (Below.refl _ _).alloc (Nat.le_refl _) _⟩
  · have V1 := Lib.hid v1
    clear v1
    by_cases v2 : 0 < t.n
    · by_cases v3 : t.n ≤ 4096
      · have v3' : decide (4096 < t.n) = false := by simp; omega
        have V3 := Lib.hid v3'
        clear v3'
        cases v4 : vss t.xs
        all_goals
          have V4 := Lib.hid v4
          clear v4
          go_enter Try.func40, Try.ntmps40
          go_wp2_with fail
          refine (validName_any _ _ hs).mono ?_
          rintro e w1 ⟨rfl, rfl⟩
          rw [V1.out]
          go_wp2_with fail
          refine (tooLong_any t _).mono ?_
          rintro e w1 ⟨rfl, hb1⟩
          rw [V3.out]
          obtain ⟨c0, c1, f0, f1, cl⟩ := ((Blk.new w 57 #[.string t.nm, .slice t.A t.n t.c]).below hb1 (by simp)).two
          have hbw : Below w.heap.size w w1 := ((Below.refl _ _).alloc (Nat.le_refl _) _).trans (hb1.mono (by simp))
          go_wp2_with fail
          refine (validSamples_any _ _ _ _ t.xs _ (H.out.below hbw (Nat.le_refl _)) hbw.size hn).mono ?_
          rintro e w2 ⟨rfl, hb2⟩
          rw [V4.out]
          go_wp2
          go_ret
          exact ⟨ret_b (by simp [vTake, V1.out, V4.out, v2, v3]), hbw.trans (hb2.mono hbw.size)⟩
      · have v3' : decide (4096 < t.n) = true := by simp; omega
        have V3 := Lib.hid v3'
        clear v3'
        go_enter Try.func40, Try.ntmps40
        go_wp2_with fail
        refine (validName_any _ _ hs).mono ?_
        rintro e w1 ⟨rfl, rfl⟩
        rw [V1.out]
        go_wp2_with fail
        refine (tooLong_any t _).mono ?_
        rintro e w1 ⟨rfl, hb1⟩
        rw [V3.out]
        go_wp2
        go_ret
        exact ⟨ret_b (by simp [vTake, v3]), ((Below.refl _ _).alloc (Nat.le_refl _) _).trans (hb1.mono (by simp))⟩
    · go_enter Try.func40, Try.ntmps40
      go_wp2_with ((with_reducible refine (validName_any _ _ hs).mono ?_); rintro e w1 ⟨rfl, rfl⟩; rw [V1.out])
      go_ret
      exact ⟨ret_b (by simp [vTake, v2]), (Below.refl _ _).alloc (Nat.le_refl _) _⟩
end Go.Proofs.Ytbcahkklhdnboaa
