/-
  Contract of the document's part.
-/
import Derived.Test.YtbcahkklhdnboaaD1
namespace Go.Proofs.Ytbcahkklhdnboaa
open Go.RowKit

set_option maxRecDepth 100000 in
set_option maxHeartbeats 4000000 in
theorem refPart_any (B : Nat) (A : Option Addr) (n c : Nat) (l : List TV) (p : Prt) (w : World) (h0 : RT w B A n l) (hB : B ≤ w.heap.size) :
    Calls Try.prog 45 #[.slice A n c, .agg #[.int .i64 p.tk, .int .i64 p.fr, .int .i64 p.to, .int .i64 p.gp, .int .i64 p.fi, .int .i64 p.fo, .int .i64 p.lv]] w fun e w' => e = .returned (.bool (vPart l p)) ∧ Below w.heap.size w w' := by
  have H := Lib.hid (h0.more hB)
  obtain ⟨hn, -⟩ := h0
  have HN := Lib.hid hn
  clear hn hB
  by_cases t1 : p.tk < 0
  · have hv : vPart l p = false := by
      unfold vPart
      rw [show decide (0 ≤ p.tk) = false from by simp; omega]; simp
    have HV := Lib.hid hv
    have e1 : decide (p.tk < 0) = true := by simpa using t1
    clear hv
    go_enter Try.func45, Try.ntmps45
    go_wp2
    go_quiet (fail)
    go_wp2
    go_ret
    exact ⟨ret_b HV.out.symm, below_drewN_ ((Below.refl _ _).alloc (Nat.le_refl _) _) _⟩
  by_cases t2 : (n : Int) ≤ p.tk
  · have hv : vPart l p = false := by
      unfold vPart
      rw [show decide (p.tk < l.length) = false from by have := HN.out; simp; omega]; simp
    have HV := Lib.hid hv
    have e1 : decide (p.tk < 0) = false := by simpa using t1
    have e2 : decide ((n : Int) ≤ p.tk) = true := by simpa using t2
    clear hv
    go_enter Try.func45, Try.ntmps45
    go_wp2
    go_quiet (fail)
    go_wp2
    go_ret
    exact ⟨ret_b HV.out.symm, below_drewN_ ((Below.refl _ _).alloc (Nat.le_refl _) _) _⟩
  obtain ⟨m, hm⟩ := Int.eq_ofNat_of_zero_le (show 0 ≤ p.tk by omega)
  have hml : m < l.length := by have := HN.out; omega
  obtain ⟨ad, hA, hbl, h1, h2, h3⟩ := H.out.at_ hml
  obtain rfl := hA
  have hv : vPart l p = (decide (0 ≤ p.fr) && decide (p.fr < p.to) && decide (p.to ≤ l[m].n) && win p.gp (-4096) 4096 && win p.fi 0 1000 && win p.fo 0 1000 && win p.lv 0 4000) := by
    unfold vPart
    rw [show decide (0 ≤ p.tk) = true from by simp; omega, show decide (p.tk < l.length) = true from by have := HN.out; simp; omega, show p.tk.toNat = m from by omega, List.getElem?_eq_getElem hml]; simp
  have HV := Lib.hid hv
  have hbl' : (ad.add (m * 2)).block < w.heap.size := by rw [block_of_add]; exact hbl
  have mn : (m : Int) < (n : Int) := by omega
  obtain ⟨tk, fr, to, gp, fi, fo, lv⟩ := p
  simp only at *
  subst hm
  have e1 : decide ((m : Int) < 0) = false := by simp
  have e2 : decide (n ≤ m) = false := by simp; omega
  clear h3 hv t1 t2
  by_cases c0 : fr < 0
  · have d0 : decide (fr < 0) = true := by simpa using c0
    have hr : false = vPart l ⟨m, fr, to, gp, fi, fo, lv⟩ := by rw [HV.out]; simp [win]; intros; omega
    have HR := Lib.hid hr
    clear hr
    go_enter Try.func45, Try.ntmps45
    go_wp2
    go_quiet (fail)
    go_wp2
    go_ret
    exact ⟨ret_b HR.out, below_drewN_ ((Below.refl _ _).alloc (Nat.le_refl _) _) _⟩
  by_cases c1 : to ≤ fr
  · have d0 : decide (fr < 0) = false := by simpa using c0
    have d1 : decide (to ≤ fr) = true := by simpa using c1
    have hr : false = vPart l ⟨m, fr, to, gp, fi, fo, lv⟩ := by rw [HV.out]; simp [win]; intros; omega
    have HR := Lib.hid hr
    clear hr
    go_enter Try.func45, Try.ntmps45
    go_wp2
    go_quiet (fail)
    go_wp2
    go_ret
    exact ⟨ret_b HR.out, below_drewN_ ((Below.refl _ _).alloc (Nat.le_refl _) _) _⟩
  by_cases c2 : ((l[m]'hml).n : Int) < to
  · have d0 : decide (fr < 0) = false := by simpa using c0
    have d1 : decide (to ≤ fr) = false := by simpa using c1
    have d2 : decide (((l[m]'hml).n : Int) < to) = true := by simpa using c2
    have hr : false = vPart l ⟨m, fr, to, gp, fi, fo, lv⟩ := by rw [HV.out]; simp [win]; intros; omega
    have HR := Lib.hid hr
    clear hr
    go_enter Try.func45, Try.ntmps45
    go_wp2
    go_quiet (fail)
    go_wp2
    go_ret
    exact ⟨ret_b HR.out, below_drewN_ ((Below.refl _ _).alloc (Nat.le_refl _) _) _⟩
  by_cases c3 : gp < -4096
  · have d0 : decide (fr < 0) = false := by simpa using c0
    have d1 : decide (to ≤ fr) = false := by simpa using c1
    have d2 : decide (((l[m]'hml).n : Int) < to) = false := by simpa using c2
    have d3 : decide (gp < -4096) = true := by simpa using c3
    have hr : false = vPart l ⟨m, fr, to, gp, fi, fo, lv⟩ := by rw [HV.out]; simp [win]; intros; omega
    have HR := Lib.hid hr
    clear hr
    go_enter Try.func45, Try.ntmps45
    go_wp2
    go_quiet (fail)
    go_wp2
    go_ret
    exact ⟨ret_b HR.out, below_drewN_ ((Below.refl _ _).alloc (Nat.le_refl _) _) _⟩
  by_cases c4 : 4096 < gp
  · have d0 : decide (fr < 0) = false := by simpa using c0
    have d1 : decide (to ≤ fr) = false := by simpa using c1
    have d2 : decide (((l[m]'hml).n : Int) < to) = false := by simpa using c2
    have d3 : decide (gp < -4096) = false := by simpa using c3
    have d4 : decide (4096 < gp) = true := by simpa using c4
    have hr : false = vPart l ⟨m, fr, to, gp, fi, fo, lv⟩ := by rw [HV.out]; simp [win]; intros; omega
    have HR := Lib.hid hr
    clear hr
    go_enter Try.func45, Try.ntmps45
    go_wp2
    go_quiet (fail)
    go_wp2
    go_ret
    exact ⟨ret_b HR.out, below_drewN_ ((Below.refl _ _).alloc (Nat.le_refl _) _) _⟩
  by_cases c5 : 0 ≤ fi
  rotate_left
  · have d0 : decide (fr < 0) = false := by simpa using c0
    have d1 : decide (to ≤ fr) = false := by simpa using c1
    have d2 : decide (((l[m]'hml).n : Int) < to) = false := by simpa using c2
    have d3 : decide (gp < -4096) = false := by simpa using c3
    have d4 : decide (4096 < gp) = false := by simpa using c4
    have d5 : decide (0 ≤ fi) = false := by simpa using c5
    have hr : false = vPart l ⟨m, fr, to, gp, fi, fo, lv⟩ := by rw [HV.out]; simp [win]; intros; omega
    have HR := Lib.hid hr
    clear hr
    go_enter Try.func45, Try.ntmps45
    go_wp2
    go_quiet (fail)
    go_wp2
    go_ret
    exact ⟨ret_b HR.out, below_drewN_ ((Below.refl _ _).alloc (Nat.le_refl _) _) _⟩
  by_cases c6 : fi ≤ 1000
  rotate_left
  · have d0 : decide (fr < 0) = false := by simpa using c0
    have d1 : decide (to ≤ fr) = false := by simpa using c1
    have d2 : decide (((l[m]'hml).n : Int) < to) = false := by simpa using c2
    have d3 : decide (gp < -4096) = false := by simpa using c3
    have d4 : decide (4096 < gp) = false := by simpa using c4
    have d5 : decide (0 ≤ fi) = true := by simpa using c5
    have d6 : decide (fi ≤ 1000) = false := by simpa using c6
    have hr : false = vPart l ⟨m, fr, to, gp, fi, fo, lv⟩ := by rw [HV.out]; simp [win]; intros; omega
    have HR := Lib.hid hr
    clear hr
    go_enter Try.func45, Try.ntmps45
    go_wp2
    go_quiet (fail)
    go_wp2
    go_ret
    exact ⟨ret_b HR.out, below_drewN_ ((Below.refl _ _).alloc (Nat.le_refl _) _) _⟩
  by_cases c7 : 0 ≤ fo
  rotate_left
  · have d0 : decide (fr < 0) = false := by simpa using c0
    have d1 : decide (to ≤ fr) = false := by simpa using c1
    have d2 : decide (((l[m]'hml).n : Int) < to) = false := by simpa using c2
    have d3 : decide (gp < -4096) = false := by simpa using c3
    have d4 : decide (4096 < gp) = false := by simpa using c4
    have d5 : decide (0 ≤ fi) = true := by simpa using c5
    have d6 : decide (fi ≤ 1000) = true := by simpa using c6
    have d7 : decide (0 ≤ fo) = false := by simpa using c7
    have hr : false = vPart l ⟨m, fr, to, gp, fi, fo, lv⟩ := by rw [HV.out]; simp [win]; intros; omega
    have HR := Lib.hid hr
    clear hr
    go_enter Try.func45, Try.ntmps45
    go_wp2
    go_quiet (fail)
    go_wp2
    go_ret
    exact ⟨ret_b HR.out, below_drewN_ ((Below.refl _ _).alloc (Nat.le_refl _) _) _⟩
  by_cases c8 : fo ≤ 1000
  rotate_left
  · have d0 : decide (fr < 0) = false := by simpa using c0
    have d1 : decide (to ≤ fr) = false := by simpa using c1
    have d2 : decide (((l[m]'hml).n : Int) < to) = false := by simpa using c2
    have d3 : decide (gp < -4096) = false := by simpa using c3
    have d4 : decide (4096 < gp) = false := by simpa using c4
    have d5 : decide (0 ≤ fi) = true := by simpa using c5
    have d6 : decide (fi ≤ 1000) = true := by simpa using c6
    have d7 : decide (0 ≤ fo) = true := by simpa using c7
    have d8 : decide (fo ≤ 1000) = false := by simpa using c8
    have hr : false = vPart l ⟨m, fr, to, gp, fi, fo, lv⟩ := by rw [HV.out]; simp [win]; intros; omega
    have HR := Lib.hid hr
    clear hr
    go_enter Try.func45, Try.ntmps45
    go_wp2
    go_quiet (fail)
    go_wp2
    go_ret
    exact ⟨ret_b HR.out, below_drewN_ ((Below.refl _ _).alloc (Nat.le_refl _) _) _⟩
  by_cases c9 : 0 ≤ lv
  rotate_left
  · have d0 : decide (fr < 0) = false := by simpa using c0
    have d1 : decide (to ≤ fr) = false := by simpa using c1
    have d2 : decide (((l[m]'hml).n : Int) < to) = false := by simpa using c2
    have d3 : decide (gp < -4096) = false := by simpa using c3
    have d4 : decide (4096 < gp) = false := by simpa using c4
    have d5 : decide (0 ≤ fi) = true := by simpa using c5
    have d6 : decide (fi ≤ 1000) = true := by simpa using c6
    have d7 : decide (0 ≤ fo) = true := by simpa using c7
    have d8 : decide (fo ≤ 1000) = true := by simpa using c8
    have d9 : decide (0 ≤ lv) = false := by simpa using c9
    have hr : false = vPart l ⟨m, fr, to, gp, fi, fo, lv⟩ := by rw [HV.out]; simp [win]; intros; omega
    have HR := Lib.hid hr
    clear hr
    go_enter Try.func45, Try.ntmps45
    go_wp2
    go_quiet (fail)
    go_wp2
    go_ret
    exact ⟨ret_b HR.out, below_drewN_ ((Below.refl _ _).alloc (Nat.le_refl _) _) _⟩
  by_cases c10 : lv ≤ 4000
  rotate_left
  · have d0 : decide (fr < 0) = false := by simpa using c0
    have d1 : decide (to ≤ fr) = false := by simpa using c1
    have d2 : decide (((l[m]'hml).n : Int) < to) = false := by simpa using c2
    have d3 : decide (gp < -4096) = false := by simpa using c3
    have d4 : decide (4096 < gp) = false := by simpa using c4
    have d5 : decide (0 ≤ fi) = true := by simpa using c5
    have d6 : decide (fi ≤ 1000) = true := by simpa using c6
    have d7 : decide (0 ≤ fo) = true := by simpa using c7
    have d8 : decide (fo ≤ 1000) = true := by simpa using c8
    have d9 : decide (0 ≤ lv) = true := by simpa using c9
    have d10 : decide (lv ≤ 4000) = false := by simpa using c10
    have hr : false = vPart l ⟨m, fr, to, gp, fi, fo, lv⟩ := by rw [HV.out]; simp [win]; intros; omega
    have HR := Lib.hid hr
    clear hr
    go_enter Try.func45, Try.ntmps45
    go_wp2
    go_quiet (fail)
    go_wp2
    go_ret
    exact ⟨ret_b HR.out, below_drewN_ ((Below.refl _ _).alloc (Nat.le_refl _) _) _⟩
  have d0 : decide (fr < 0) = false := by simpa using c0
  have d1 : decide (to ≤ fr) = false := by simpa using c1
  have d2 : decide (((l[m]'hml).n : Int) < to) = false := by simpa using c2
  have d3 : decide (gp < -4096) = false := by simpa using c3
  have d4 : decide (4096 < gp) = false := by simpa using c4
  have d5 : decide (0 ≤ fi) = true := by simpa using c5
  have d6 : decide (fi ≤ 1000) = true := by simpa using c6
  have d7 : decide (0 ≤ fo) = true := by simpa using c7
  have d8 : decide (fo ≤ 1000) = true := by simpa using c8
  have d9 : decide (0 ≤ lv) = true := by simpa using c9
  have d10 : decide (lv ≤ 4000) = true := by simpa using c10
  have hr : true = vPart l ⟨m, fr, to, gp, fi, fo, lv⟩ := by rw [HV.out]; simp [win]; omega
  have HR := Lib.hid hr
  clear hr
  go_enter Try.func45, Try.ntmps45
  go_wp2
  go_quiet (fail)
  go_wp2
  go_ret
  exact ⟨ret_b HR.out, below_drewN_ ((Below.refl _ _).alloc (Nat.le_refl _) _) _⟩
end Go.Proofs.Ytbcahkklhdnboaa
