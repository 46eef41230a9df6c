/-
  Parts and placed parts in memory; contracts of validPart, length, end.
-/
import Derived.Test.YtbcahkklhdnboaaB2
namespace Go.Proofs.Ytbcahkklhdnboaa
open Go.RowKit

structure Prt where
  tk : Int
  fr : Int
  to : Int
  gp : Int
  fi : Int
  fo : Int
  lv : Int

def prt (p : Prt) : List Value := [.int .i64 p.tk, .int .i64 p.fr, .int .i64 p.to, .int .i64 p.gp, .int .i64 p.fi, .int .i64 p.fo, .int .i64 p.lv]
def prtCells (l : List Prt) : List Value := l.flatMap prt
theorem prtCells_length (l : List Prt) : (prtCells l).length = l.length * 7 := by
  induction l with
  | nil => rfl
  | cons x xs ih => simp [prtCells, prt] at ih ⊢; omega
theorem prtCells_at (l : List Prt) : ∀ (k : Nat) (h : k < l.length) (j : Nat), j < 7 → (prtCells l)[k * 7 + j]? = (prt l[k])[j]? := by
  induction l with
  | nil => intro k h; simp at h
  | cons x xs ih =>
    intro k h j hj
    show ((prt x) ++ prtCells xs)[k * 7 + j]? = _
    cases k with
    | zero => rw [List.getElem?_append_left (by simp [prt]; omega)]; simp
    | succ k =>
      rw [List.getElem?_append_right (by simp [prt]; omega)]
      rw [show (k + 1) * 7 + j - (prt x).length = k * 7 + j from by simp [prt]; omega]
      exact ih k (by simpa using h) j hj

/-- '.slice A n c' reads as the parts l. -/
def RP (w : World) (B : Nat) (A : Option Addr) (n : Nat) (l : List Prt) : Prop := n = l.length ∧ Reads w B 7 A n (prtCells l)
theorem RP.below {w w' : World} {B B' : Nat} {A : Option Addr} {n : Nat} {l : List Prt} (h : RP w B A n l) (hb : Below B' w w') (hB : B ≤ B') : RP w' B A n l := ⟨h.1, h.2.below hb hB⟩
theorem RP.more {w : World} {B B' : Nat} {A : Option Addr} {n : Nat} {l : List Prt} (h : RP w B A n l) (hB : B ≤ B') : RP w B' A n l := ⟨h.1, h.2.more hB⟩
theorem RP.at_ {w : World} {B : Nat} {A : Option Addr} {n : Nat} {l : List Prt} (h : RP w B A n l) {k : Nat} (hk : k < l.length) :
    ∃ ad, A = some ad ∧ ad.block < B ∧ w.cell? (ad.add (k * 7)) = some (.int .i64 l[k].tk) ∧ w.cell? ⟨(ad.add (k * 7)).block, (ad.add (k * 7)).off + 1, none⟩ = some (.int .i64 l[k].fr) ∧
      w.cell? ⟨(ad.add (k * 7)).block, (ad.add (k * 7)).off + 2, none⟩ = some (.int .i64 l[k].to) ∧ w.cell? ⟨(ad.add (k * 7)).block, (ad.add (k * 7)).off + 3, none⟩ = some (.int .i64 l[k].gp) ∧
      w.cell? ⟨(ad.add (k * 7)).block, (ad.add (k * 7)).off + 4, none⟩ = some (.int .i64 l[k].fi) ∧ w.cell? ⟨(ad.add (k * 7)).block, (ad.add (k * 7)).off + 5, none⟩ = some (.int .i64 l[k].fo) ∧
      w.cell? ⟨(ad.add (k * 7)).block, (ad.add (k * 7)).off + 6, none⟩ = some (.int .i64 l[k].lv) := by
  obtain ⟨rfl, hr⟩ := h
  obtain ⟨ad, e, hb, hc⟩ := hr.2 (by omega)
  have g : ∀ j, j < 7 → ∀ u, (prt l[k])[j]? = some u → w.cell? ((ad.add (k * 7)).add j) = some u := by
    intro j hj u hu
    rw [add_of_add]
    exact hc _ _ ((prtCells_at l k hk j hj).trans hu)
  exact ⟨ad, e, hb, g 0 (by omega) _ rfl, g 1 (by omega) _ rfl, g 2 (by omega) _ rfl, g 3 (by omega) _ rfl, g 4 (by omega) _ rfl, g 5 (by omega) _ rfl, g 6 (by omega) _ rfl⟩

theorem within_b {x lo hi : Int} {b : Bool} {w : World} (h : win x lo hi = b) :
    Calls Try.prog 65 #[.int .i64 x, .int .i64 lo, .int .i64 hi] w fun e w' => e = .returned (.bool b) ∧ w' = w :=
  (within_any x lo hi w).mono fun e w' ⟨he, hw⟩ => ⟨by rw [he, h], hw.symm⟩
theorem within64_b {x lo hi : Int} {b : Bool} {w : World} (h : win x lo hi = b) :
    Calls Try.prog 64 #[.int .i64 x, .int .i64 lo, .int .i64 hi] w fun e w' => e = .returned (.bool b) ∧ w' = w :=
  (within64_any x lo hi w).mono fun e w' ⟨he, hw⟩ => ⟨by rw [he, h], hw.symm⟩

/-- Whether a part is valid for takes. -/
def vPart (l : List TV) (p : Prt) : Bool :=
  decide (0 ≤ p.tk) && decide (p.tk < l.length) && decide (0 ≤ p.fr) && decide (p.fr < p.to) && (match l[p.tk.toNat]? with | some t => decide (p.to ≤ t.n) | none => false) &&
    win p.gp (-4096) 4096 && win p.fi 0 1000 && win p.fo 0 1000 && win p.lv 0 4000

set_option maxRecDepth 100000 in
set_option maxHeartbeats 2000000 in
theorem validPart_any (B : Nat) (A : Option Addr) (n c : Nat) (l : List TV) (p : Prt) (w : World) (h0 : RT w B A n l) (hB : B ≤ w.heap.size) :
    Calls Try.prog 43 #[.slice A n c, .agg #[.int .i64 p.tk, .int .i64 p.fr, .int .i64 p.to, .int .i64 p.gp, .int .i64 p.fi, .int .i64 p.fo, .int .i64 p.lv]] w fun e w' => e = .returned (.bool (vPart l p)) ∧ Below w.heap.size w w' := by
  have H := Lib.hid (h0.more hB)
  obtain ⟨hn, -⟩ := h0
  have HN := Lib.hid hn
  clear hn hB
  by_cases t1 : 0 ≤ p.tk
  · by_cases t2 : p.tk < n
    · obtain ⟨m, hm⟩ := Int.eq_ofNat_of_zero_le t1
      have hml : m < l.length := by have := HN.out; omega
      obtain ⟨ad, hA, hbl, h1, h2, h3⟩ := H.out.at_ hml
      obtain rfl := hA
      have hv : vPart l p = (decide (0 ≤ p.fr) && decide (p.fr < p.to) && decide (p.to ≤ l[m].n) && win p.gp (-4096) 4096 && win p.fi 0 1000 && win p.fo 0 1000 && win p.lv 0 4000) := by
        unfold vPart
        have e1 : decide (0 ≤ p.tk) = true := by simpa using t1
        have e2 : decide (p.tk < l.length) = true := by have := HN.out; simp; omega
        rw [e1, e2, show p.tk.toNat = m from by omega, List.getElem?_eq_getElem hml]; simp
      have HV := Lib.hid hv
      have HM := Lib.hid hm
      have hbl' : (ad.add (m * 2)).block < w.heap.size := by rw [block_of_add]; exact hbl
      have m0 : decide ((m : Int) < 0) = false := by simp
      clear h3 hv
      obtain ⟨tk, fr, to, gp, fi, fo, lv⟩ := p
      simp only at *
      subst hm
      clear HM
      by_cases c1 : 0 ≤ fr
      · by_cases c2 : fr < to
        · by_cases c3 : to ≤ (l[m].n : Int)
          · cases c4 : win gp (-4096) 4096
            · have d1 : decide (0 ≤ fr) = true := by simpa using c1
              have D1 := Lib.hid d1
              have d2 : decide (fr < to) = true := by simpa using c2
              have D2 := Lib.hid d2
              have d3 : decide (to ≤ (l[m].n : Int)) = true := by simpa using c3
              have D3 := Lib.hid d3
              have C4 := Lib.hid c4
              clear c4
              go_enter Try.func43, Try.ntmps43
              go_wp2
              go_quiet ((go_at_call 65; with_reducible exact Calls.quiet_of_same (within_b C4.out)))
              go_wp2
              go_ret
              exact ⟨ret_b (by rw [HV.out, D1.out, D2.out, D3.out, C4.out]; simp), below_drewN_ ((Below.refl _ _).alloc (Nat.le_refl _) _) _⟩
            · cases c5 : win fi 0 1000
              · have d1 : decide (0 ≤ fr) = true := by simpa using c1
                have D1 := Lib.hid d1
                have d2 : decide (fr < to) = true := by simpa using c2
                have D2 := Lib.hid d2
                have d3 : decide (to ≤ (l[m].n : Int)) = true := by simpa using c3
                have D3 := Lib.hid d3
                have C4 := Lib.hid c4
                clear c4
                have C5 := Lib.hid c5
                clear c5
                go_enter Try.func43, Try.ntmps43
                go_wp2
                go_quiet (first | (go_at_call 65; with_reducible exact Calls.quiet_of_same (within_b C4.out)) | (go_at_call 65; with_reducible exact Calls.quiet_of_same (within_b C5.out)))
                go_wp2
                go_ret
                exact ⟨ret_b (by rw [HV.out, D1.out, D2.out, D3.out, C4.out, C5.out]; simp), below_drewN_ ((Below.refl _ _).alloc (Nat.le_refl _) _) _⟩
              · cases c6 : win fo 0 1000
                · have d1 : decide (0 ≤ fr) = true := by simpa using c1
                  have D1 := Lib.hid d1
                  have d2 : decide (fr < to) = true := by simpa using c2
                  have D2 := Lib.hid d2
                  have d3 : decide (to ≤ (l[m].n : Int)) = true := by simpa using c3
                  have D3 := Lib.hid d3
                  have C4 := Lib.hid c4
                  clear c4
                  have C5 := Lib.hid c5
                  clear c5
                  have C6 := Lib.hid c6
                  clear c6
                  go_enter Try.func43, Try.ntmps43
                  go_wp2
                  go_quiet (first | (go_at_call 65; with_reducible exact Calls.quiet_of_same (within_b C4.out)) | (go_at_call 65; with_reducible exact Calls.quiet_of_same (within_b C5.out)) | (go_at_call 65; with_reducible exact Calls.quiet_of_same (within_b C6.out)))
                  go_wp2
                  go_ret
                  exact ⟨ret_b (by rw [HV.out, D1.out, D2.out, D3.out, C4.out, C5.out, C6.out]; simp), below_drewN_ ((Below.refl _ _).alloc (Nat.le_refl _) _) _⟩
                · cases c7 : win lv 0 4000
                  · have d1 : decide (0 ≤ fr) = true := by simpa using c1
                    have D1 := Lib.hid d1
                    have d2 : decide (fr < to) = true := by simpa using c2
                    have D2 := Lib.hid d2
                    have d3 : decide (to ≤ (l[m].n : Int)) = true := by simpa using c3
                    have D3 := Lib.hid d3
                    have C4 := Lib.hid c4
                    clear c4
                    have C5 := Lib.hid c5
                    clear c5
                    have C6 := Lib.hid c6
                    clear c6
                    have C7 := Lib.hid c7
                    clear c7
                    go_enter Try.func43, Try.ntmps43
                    go_wp2
                    go_quiet (first | (go_at_call 65; with_reducible exact Calls.quiet_of_same (within_b C4.out)) | (go_at_call 65; with_reducible exact Calls.quiet_of_same (within_b C5.out)) | (go_at_call 65; with_reducible exact Calls.quiet_of_same (within_b C6.out)) | (go_at_call 64; with_reducible exact Calls.quiet_of_same (within64_b C7.out)))
                    go_wp2
                    go_ret
                    exact ⟨ret_b (by rw [HV.out, D1.out, D2.out, D3.out, C4.out, C5.out, C6.out, C7.out]; simp), below_drewN_ ((Below.refl _ _).alloc (Nat.le_refl _) _) _⟩
                  · have d1 : decide (0 ≤ fr) = true := by simpa using c1
                    have D1 := Lib.hid d1
                    have d2 : decide (fr < to) = true := by simpa using c2
                    have D2 := Lib.hid d2
                    have d3 : decide (to ≤ (l[m].n : Int)) = true := by simpa using c3
                    have D3 := Lib.hid d3
                    have C4 := Lib.hid c4
                    clear c4
                    have C5 := Lib.hid c5
                    clear c5
                    have C6 := Lib.hid c6
                    clear c6
                    have C7 := Lib.hid c7
                    clear c7
                    go_enter Try.func43, Try.ntmps43
                    go_wp2
                    go_quiet (first | (go_at_call 65; with_reducible exact Calls.quiet_of_same (within_b C4.out)) | (go_at_call 65; with_reducible exact Calls.quiet_of_same (within_b C5.out)) | (go_at_call 65; with_reducible exact Calls.quiet_of_same (within_b C6.out)) | (go_at_call 64; with_reducible exact Calls.quiet_of_same (within64_b C7.out)))
                    go_wp2
                    go_ret
                    exact ⟨ret_b (by rw [HV.out, D1.out, D2.out, D3.out, C4.out, C5.out, C6.out, C7.out]; simp), below_drewN_ ((Below.refl _ _).alloc (Nat.le_refl _) _) _⟩
          · have d1 : decide (0 ≤ fr) = true := by simpa using c1
            have D1 := Lib.hid d1
            have d2 : decide (fr < to) = true := by simpa using c2
            have D2 := Lib.hid d2
            have d3 : decide (to ≤ (l[m].n : Int)) = false := by simpa using c3
            have D3 := Lib.hid d3
            go_enter Try.func43, Try.ntmps43
            go_wp2
            go_quiet (fail)
            go_wp2
            go_ret
            exact ⟨ret_b (by rw [HV.out, D1.out, D2.out, D3.out]; simp), below_drewN_ ((Below.refl _ _).alloc (Nat.le_refl _) _) _⟩
        · have d1 : decide (0 ≤ fr) = true := by simpa using c1
          have D1 := Lib.hid d1
          have d2 : decide (fr < to) = false := by simpa using c2
          have D2 := Lib.hid d2
          go_enter Try.func43, Try.ntmps43
          go_wp2
          go_quiet (fail)
          go_wp2
          go_ret
          exact ⟨ret_b (by rw [HV.out, D1.out, D2.out]; simp), below_drewN_ ((Below.refl _ _).alloc (Nat.le_refl _) _) _⟩
      · have d1 : decide (0 ≤ fr) = false := by simpa using c1
        have D1 := Lib.hid d1
        go_enter Try.func43, Try.ntmps43
        go_wp2
        go_quiet (fail)
        go_wp2
        go_ret
        exact ⟨ret_b (by rw [HV.out, D1.out]; simp), below_drewN_ ((Below.refl _ _).alloc (Nat.le_refl _) _) _⟩
    · have hv : vPart l p = false := by
        unfold vPart
        have e2 : decide (p.tk < l.length) = false := by have := HN.out; simp; omega
        rw [e2]; simp
      have HV := Lib.hid hv
      clear hv
      go_enter Try.func43, Try.ntmps43
      go_wp2
      go_ret
      exact ⟨ret_b HV.out.symm, (Below.refl _ _).alloc (Nat.le_refl _) _⟩
  · have hv : vPart l p = false := by
      unfold vPart
      have e2 : decide (0 ≤ p.tk) = false := by simp; omega
      rw [e2]; simp
    have HV := Lib.hid hv
    clear hv
    go_enter Try.func43, Try.ntmps43
    go_wp2
    go_ret
    exact ⟨ret_b HV.out.symm, (Below.refl _ _).alloc (Nat.le_refl _) _⟩
end Go.Proofs.Ytbcahkklhdnboaa
