/-
  Tips that are blunter, and wows: checkBlunter, checkWow, the document's Blunter.
-/
import Derived.Test.YtjdnpgilinfkgaaM9
import Derived.Test.YtjdnpgilinfkgaaND
import Derived.Test.YtjdnpgilinfkgaaHB
namespace Go.Proofs.Ytjdnpgilinfkgaa
open Go.RowKit

/-- A tip is blunter than another one (or as sharp). -/
def blL (s o : List Int) : Bool := decide (o.length ≤ s.length) && (List.range o.length).all (fun k => decide (atI s k ≤ atI o k))
def ckBl (s o : List Int) : Int := if blL s o then 0 else 20
def ckWo (x : Int) : Int := if 0 ≤ x ∧ x ≤ 256 then 0 else 3
theorem blL_t {s o : List Int} : blL s o = true ↔ o.length ≤ s.length ∧ ∀ k, k < o.length → atI s k ≤ atI o k := by
  unfold blL
  simp [List.all_eq_true]
theorem blL_short {s o : List Int} (h : s.length < o.length) : blL s o = false := by
  unfold blL
  rw [decide_eq_false (by omega), Bool.false_and]
theorem blL_bad {s o : List Int} {k : Nat} (hk : k < o.length) (h : atI o k < atI s k) : blL s o = false := by
  rw [Bool.eq_false_iff]
  intro h1
  have := (blL_t.1 h1).2 k hk
  omega

set_option maxRecDepth 100000 in
set_option maxHeartbeats 4000000 in
theorem checkBlunter_any (B : Nat) (A A' : Option Addr) (n c n' c' : Nat) (s o : List Int) (w : World) (h0 : LI w B A n s) (h1 : LI w B A' n' o) (hB : B ≤ w.heap.size) (hl : n ≤ 9223372036854775807) (hl' : n' ≤ 9223372036854775807) :
    Calls Try.prog 60 #[.agg #[.slice A n c], .agg #[.slice A' n' c']] w fun e w' => e = .returned (.int .i64 (ckBl s o)) ∧ Below w.heap.size w w' := by
  have HN := Lib.hid (And.intro h0.1 h1.1)
  have H := Lib.hid (h0.more hB)
  have HO := Lib.hid (h1.more hB)
  clear h0 h1 hB
  go_enter Try.func60, Try.ntmps60
  go_upto_region 1 with fail
  obtain ⟨W, hW⟩ : ∃ W, (w.alloc (.cells #[.slice A n c] 24)).alloc (.cells #[.slice A' n' c'] 24) = W := ⟨_, rfl⟩
  have hb : Below w.heap.size w W := by rw [← hW]; exact ((Below.refl _ _).alloc (Nat.le_refl _) _).alloc (by simp) _
  have K1 : Hid (Blk W w.heap.size 24 #[.slice A n c]) := Lib.hid (by rw [← hW]; exact (Blk.new _ _ _).alloc _)
  have K2 : Hid (Blk W (w.heap.size + 1) 24 #[.slice A' n' c']) := Lib.hid (by rw [← hW]; exact blk_al (by simp))
  have HB := Lib.hid hb
  rw [hW]
  clear hW hb
  have t1 := K1.out.one.1
  have t2 := K2.out.one.1
  by_cases hs : n < n'
  · have hr : Hid (ckBl s o = 20) := Lib.hid (by unfold ckBl; rw [blL_short (by have := HN.out; omega)]; rfl)
    have d1 : (n : Int) < (n' : Int) := by omega
    have d2 : decide ((n : Int) < (n' : Int)) = true := decide_eq_true d1
    clear hs
    go_wp2
    go_ret
    exact ⟨ret_i hr.out.symm, HB.out⟩
  · have d1 : ¬ (n : Int) < (n' : Int) := by omega
    have d2 : decide ((n : Int) < (n' : Int)) = false := decide_eq_false d1
    go_wp2_with fail
    go_loopw [5, 6, 17] (fun _ _ i wr => ∃ k : Nat, k ≤ n' ∧ i = .int .i64 k ∧ Hid (Below w.heap.size w wr) ∧ Hid (Blk wr w.heap.size 24 #[.slice A n c]) ∧ Hid (Blk wr (w.heap.size + 1) 24 #[.slice A' n' c']) ∧ Hid (∀ q, q < k → atI s q ≤ atI o q)) (fun _ _ i wr => n' - (intOf i).toNat)
    case atStart => exact ⟨0, Nat.zero_le _, rfl, HB, K1, K2, Lib.hid (fun _ h => absurd h (by omega))⟩
    case round =>
      clear HB K1 K2 t1 t2 d1 d2
      obtain ⟨k, hk, rfl, HB, K1, K2, HV⟩ := hrel
      by_cases hlt : k < n'
      · have hko : k < o.length := by have := HN.out; omega
        have hks : k < s.length := by have := HN.out; omega
        have t1 := K1.out.one.1
        have t2 := K2.out.one.1
        obtain ⟨a1, hA1, _, y1⟩ := (H.out.below HB.out (Nat.le_refl _)).at_ hks
        obtain ⟨a2, hA2, _, y2⟩ := (HO.out.below HB.out (Nat.le_refl _)).at_ hko
        obtain rfl := hA1
        obtain rfl := hA2
        rw [← atI_eq hks] at y1
        rw [← atI_eq hko] at y2
        have HK := Lib.hid hko
        have q1 : (k : Int) < (n' : Int) := by omega
        have q2 : (k : Int) < (n : Int) := by omega
        obtain ⟨x, hx⟩ : ∃ x, atI s k = x := ⟨_, rfl⟩
        obtain ⟨y, hy⟩ : ∃ y, atI o k = y := ⟨_, rfl⟩
        rw [hx] at y1
        rw [hy] at y2
        have HX := Lib.hid hx
        have HY := Lib.hid hy
        clear hx hy hko hks
        by_cases c1 : y < x
        · have hr : Hid (ckBl s o = 20) := Lib.hid (by unfold ckBl; rw [blL_bad HK.out (by rw [HX.out, HY.out]; exact c1)]; rfl)
          have c2 : decide (y < x) = true := decide_eq_true c1
          have c3 : ¬ x ≤ y := by omega
          go_wp2
          go_ret
          exact ⟨ret_i hr.out.symm, HB.out⟩
        · have c2 : decide (y < x) = false := decide_eq_false c1
          have c3 : x ≤ y := by omega
          go_wp2
          go_roundw
          case rel => exact ⟨k + 1, by omega, by go_num, HB, K1, K2, Lib.hid (fun q hq => by
            rcases Nat.lt_or_ge q k with h | h
            · exact HV.out q h
            · rw [show q = k by omega, HX.out, HY.out]; exact c3)⟩
          case measure => simp [intOf] <;> omega
      · obtain rfl : k = n' := by omega
        have hr : Hid (ckBl s o = 0) := Lib.hid (by unfold ckBl; rw [blL_t.2 ⟨by have := HN.out; omega, fun q hq => HV.out q (by have := HN.out; omega)⟩]; rfl)
        go_wp2
        go_ret
        exact ⟨ret_i hr.out.symm, HB.out⟩

set_option maxRecDepth 100000 in
set_option maxHeartbeats 4000000 in
theorem refBlunter_any (B : Nat) (A A' : Option Addr) (n c n' c' : Nat) (s o : List Int) (w : World) (h0 : LI w B A n s) (h1 : LI w B A' n' o) (hB : B ≤ w.heap.size) (hl : n ≤ 9223372036854775807) (hl' : n' ≤ 9223372036854775807) :
    Calls Try.prog 67 #[.agg #[.slice A n c], .agg #[.slice A' n' c']] w fun e w' => e = .returned (.bool (blL s o)) ∧ Below w.heap.size w w' := by
  have HN := Lib.hid (And.intro h0.1 h1.1)
  have H := Lib.hid (h0.more hB)
  have HO := Lib.hid (h1.more hB)
  clear h0 h1 hB
  go_enter Try.func67, Try.ntmps67
  go_upto_region 1 with fail
  obtain ⟨W, hW⟩ : ∃ W, (w.alloc (.cells #[.slice A n c] 24)).alloc (.cells #[.slice A' n' c'] 24) = W := ⟨_, rfl⟩
  have hb : Below w.heap.size w W := by rw [← hW]; exact ((Below.refl _ _).alloc (Nat.le_refl _) _).alloc (by simp) _
  have K1 : Hid (Blk W w.heap.size 24 #[.slice A n c]) := Lib.hid (by rw [← hW]; exact (Blk.new _ _ _).alloc _)
  have K2 : Hid (Blk W (w.heap.size + 1) 24 #[.slice A' n' c']) := Lib.hid (by rw [← hW]; exact blk_al (by simp))
  have HB := Lib.hid hb
  rw [hW]
  clear hW hb
  have t1 := K1.out.one.1
  have t2 := K2.out.one.1
  by_cases hs : n < n'
  · have hr : Hid (blL s o = false) := Lib.hid (blL_short (by have := HN.out; omega))
    have d1 : (n : Int) < (n' : Int) := by omega
    have d2 : decide ((n : Int) < (n' : Int)) = true := decide_eq_true d1
    clear hs
    go_wp2
    go_ret
    exact ⟨ret_b hr.out.symm, HB.out⟩
  · have d1 : ¬ (n : Int) < (n' : Int) := by omega
    have d2 : decide ((n : Int) < (n' : Int)) = false := decide_eq_false d1
    go_wp2_with fail
    go_loopw [5] (fun i wr => ∃ k : Nat, k ≤ n' ∧ i = .int .i64 k ∧ Hid (Below w.heap.size w wr) ∧ Hid (Blk wr w.heap.size 24 #[.slice A n c]) ∧ Hid (Blk wr (w.heap.size + 1) 24 #[.slice A' n' c']) ∧ Hid (∀ q, q < k → atI s q ≤ atI o q)) (fun i wr => n' - (intOf i).toNat)
    case atStart => exact ⟨0, Nat.zero_le _, rfl, HB, K1, K2, Lib.hid (fun _ h => absurd h (by omega))⟩
    case round =>
      clear HB K1 K2 t1 t2 d1 d2
      obtain ⟨k, hk, rfl, HB, K1, K2, HV⟩ := hrel
      have t1 := K1.out.one.1
      have t2 := K2.out.one.1
      by_cases hlt : k < n'
      · have hko : k < o.length := by have := HN.out; omega
        have hks : k < s.length := by have := HN.out; omega
        obtain ⟨a1, hA1, _, y1⟩ := (H.out.below HB.out (Nat.le_refl _)).at_ hks
        obtain ⟨a2, hA2, _, y2⟩ := (HO.out.below HB.out (Nat.le_refl _)).at_ hko
        obtain rfl := hA1
        obtain rfl := hA2
        rw [← atI_eq hks] at y1
        rw [← atI_eq hko] at y2
        have HK := Lib.hid hko
        have q1 : (k : Int) < (n' : Int) := by omega
        have q2 : (k : Int) < (n : Int) := by omega
        obtain ⟨x, hx⟩ : ∃ x, atI s k = x := ⟨_, rfl⟩
        obtain ⟨y, hy⟩ : ∃ y, atI o k = y := ⟨_, rfl⟩
        rw [hx] at y1
        rw [hy] at y2
        have HX := Lib.hid hx
        have HY := Lib.hid hy
        clear hx hy hko hks
        by_cases c1 : y < x
        · have hr : Hid (blL s o = false) := Lib.hid (blL_bad HK.out (by rw [HX.out, HY.out]; exact c1))
          have c2 : decide (y < x) = true := decide_eq_true c1
          have c3 : ¬ x ≤ y := by omega
          go_wp2_with fail
          go_quiet (fail)
          go_wp2
          go_ret
          exact ⟨ret_b hr.out.symm, below_drewN_ HB.out _⟩
        · have c2 : decide (y < x) = false := decide_eq_false c1
          have c3 : x ≤ y := by omega
          go_wp2_with fail
          go_quiet (fail)
          go_wp2
          go_roundw
          case rel => exact ⟨k + 1, by omega, by go_num, Lib.hid (below_drewN_ HB.out _), K1, K2, Lib.hid (fun q hq => by
            rcases Nat.lt_or_ge q k with h | h
            · exact HV.out q h
            · rw [show q = k by omega, HX.out, HY.out]; exact c3)⟩
          case measure => simp [intOf] <;> omega
      · obtain rfl : k = n' := by omega
        have hr : Hid (blL s o = true) := Lib.hid (blL_t.2 ⟨by have := HN.out; omega, fun q hq => HV.out q (by have := HN.out; omega)⟩)
        go_wp2
        go_ret
        exact ⟨ret_b hr.out.symm, HB.out⟩

set_option maxRecDepth 100000 in
set_option maxHeartbeats 1000000 in
theorem checkWow_any (x : Int) (w : World) :
    Calls Try.prog 61 #[.int .i64 x] w fun e w' => e = .returned (.int .i64 (ckWo x)) ∧ w = w' := by
  have CB := Lib.hid (fun W => betweenP_any 0 x 256 W)
  obtain ⟨b, hb⟩ : ∃ b, win x 0 256 = b := ⟨_, rfl⟩
  have e : ckWo x = if b then 0 else 3 := by rw [← hb]; unfold ckWo win; simp
  rw [e]
  try rw [hb] at CB
  clear hb e
  go_enter Try.func61, Try.ntmps61
  go_wp2_with fail
  refine (CB.out _).mono ?_
  rintro e w1 ⟨rfl, rfl⟩
  cases b
  · go_wp2
    go_ret
    exact ⟨rfl, rfl⟩
  · go_wp2
    go_ret
    exact ⟨rfl, rfl⟩
end Go.Proofs.Ytjdnpgilinfkgaa
