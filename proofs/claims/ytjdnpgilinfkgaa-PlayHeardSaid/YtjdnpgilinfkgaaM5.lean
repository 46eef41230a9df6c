/-
  What a stylus reads, and what it sweeps: outer and inner of both.
-/
import Derived.Test.YtjdnpgilinfkgaaM4
namespace Go.Proofs.Ytjdnpgilinfkgaa
open Go.RowKit

theorem nbr_lt {t far n u : Nat} (h : u ∈ nbr t far n) : u < n := (nbr_mem.1 h).1
theorem FunIs.outer (B : Nat) (A : Option Addr) (n c : Nat) (l : List Smp) (t far : Nat) (w : World) (h0 : RS w B A n l) (hB : B ≤ w.heap.size) : FunIs w 106 #[.slice A n c] #[] (nbr t far n) (outW l) :=
  ⟨enters_of Try.func106 (by kernel_rfl) rfl, fun u hu W hW => by
    have h := lineOuter_any B A n c l u W (h0.below hW hB) (by have := nbr_lt hu; have := h0.1; omega)
    exact h.mono fun e w' ⟨he, hw⟩ => ⟨he, hw ▸ Below.refl _ _⟩⟩
theorem FunIs.inner (B : Nat) (A : Option Addr) (n c : Nat) (l : List Smp) (t far : Nat) (w : World) (h0 : RS w B A n l) (hB : B ≤ w.heap.size) (he : Edg l) : FunIs w 107 #[.slice A n c] #[] (nbr t far n) (innW l) :=
  ⟨enters_of Try.func107 (by kernel_rfl) rfl, fun u hu W hW => by
    have h := lineInner_any B A n c l u W (h0.below hW hB) (by have := nbr_lt hu; have := h0.1; omega) he
    exact h.mono fun e w' ⟨he, hw⟩ => ⟨he, hw ▸ Below.refl _ _⟩⟩

set_option maxRecDepth 100000 in
set_option maxHeartbeats 1000000 in
theorem readOuter_any (B : Nat) (s : List Int) (Af A : Option Addr) (nf cf n c t : Nat) (l : List Smp) (w : World) (hL : LI w B Af nf (flk s)) (h0 : RS w B A n l) (hB : B ≤ w.heap.size) (hs : Shp s) (he : Edg l) (ht : t < n) (hn : n ≤ 4096) :
    Calls Try.prog 137 #[.agg #[.slice Af nf cf, .int .i64 ((s.length - 1 : Nat) : Int), .slice A n c], .int .i64 t] w fun e w' => e = .returned (.int .i64 (er s n (outW l) t)) ∧ Below w.heap.size w w' := by
  have H0 := Lib.hid h0
  have HL := Lib.hid hL
  have HSH := Lib.hid hs
  have HE := Lib.hid he
  have EDGE := Lib.hid (fun W (hb : Below w.heap.size w W) => readEdge_any B 106 #[.slice A n c] #[] (outW l) s Af A nf cf n c t W (hL.below hb hB) (Nat.le_trans hB hb.size)
    (FunIs.outer B A n c l t (s.length - 1) W (h0.below hb hB) (Nat.le_trans hB hb.size)) hs ht hn (fun u hu => by have h := he.2 u (by have := nbr_lt hu; have := h0.1; omega); omega))
  obtain ⟨R, hR⟩ : ∃ R, er s n (outW l) t = R := ⟨_, rfl⟩
  rw [hR]
  have EDGE : Hid (∀ W, Below w.heap.size w W → Calls Try.prog 138 #[.agg #[.slice Af nf cf, .int .i64 ((s.length - 1 : Nat) : Int), .slice A n c], .func (.func 106) #[.slice A n c] #[], .int .i64 t] W fun e w' => e = .returned (.int .i64 R) ∧ Below W.heap.size W w') := Lib.hid (fun W hb => by rw [← hR]; exact EDGE.out W hb)
  obtain ⟨rc, hrc⟩ : ∃ rc, s.length - 1 = rc := ⟨_, rfl⟩
  rw [hrc] at EDGE
  rw [hrc]
  clear hL h0 hs he hR hrc
  go_enter Try.func137, Try.ntmps137
  go_wp2_with fail
  refine (EDGE.out _ ((Below.refl _ _).alloc (Nat.le_refl _) _)).mono ?_
  rintro e w1 ⟨rfl, hb1⟩
  have HB := Lib.hid (((Below.refl _ w).alloc (Nat.le_refl _) (.cells #[.slice Af nf cf, .int .i64 rc, .slice A n c] 110)).trans (hb1.mono (by simp)))
  clear hb1
  go_wp2
  go_ret
  exact ⟨rfl, HB.out⟩

set_option maxRecDepth 100000 in
set_option maxHeartbeats 1000000 in
theorem readInner_any (B : Nat) (s : List Int) (Af A : Option Addr) (nf cf n c t : Nat) (l : List Smp) (w : World) (hL : LI w B Af nf (flk s)) (h0 : RS w B A n l) (hB : B ≤ w.heap.size) (hs : Shp s) (he : Edg l) (ht : t < n) (hn : n ≤ 4096) :
    Calls Try.prog 136 #[.agg #[.slice Af nf cf, .int .i64 ((s.length - 1 : Nat) : Int), .slice A n c], .int .i64 t] w fun e w' => e = .returned (.int .i64 (er s n (innW l) t)) ∧ Below w.heap.size w w' := by
  have H0 := Lib.hid h0
  have HL := Lib.hid hL
  have HSH := Lib.hid hs
  have HE := Lib.hid he
  have EDGE := Lib.hid (fun W (hb : Below w.heap.size w W) => readEdge_any B 107 #[.slice A n c] #[] (innW l) s Af A nf cf n c t W (hL.below hb hB) (Nat.le_trans hB hb.size)
    (FunIs.inner B A n c l t (s.length - 1) W (h0.below hb hB) (Nat.le_trans hB hb.size) he) hs ht hn (fun u hu => by have h := he.1 u (by have := nbr_lt hu; have := h0.1; omega); omega))
  obtain ⟨R, hR⟩ : ∃ R, er s n (innW l) t = R := ⟨_, rfl⟩
  rw [hR]
  have EDGE : Hid (∀ W, Below w.heap.size w W → Calls Try.prog 138 #[.agg #[.slice Af nf cf, .int .i64 ((s.length - 1 : Nat) : Int), .slice A n c], .func (.func 107) #[.slice A n c] #[], .int .i64 t] W fun e w' => e = .returned (.int .i64 R) ∧ Below W.heap.size W w') := Lib.hid (fun W hb => by rw [← hR]; exact EDGE.out W hb)
  obtain ⟨rc, hrc⟩ : ∃ rc, s.length - 1 = rc := ⟨_, rfl⟩
  rw [hrc] at EDGE
  rw [hrc]
  clear hL h0 hs he hR hrc
  go_enter Try.func136, Try.ntmps136
  go_wp2_with fail
  refine (EDGE.out _ ((Below.refl _ _).alloc (Nat.le_refl _) _)).mono ?_
  rintro e w1 ⟨rfl, hb1⟩
  have HB := Lib.hid (((Below.refl _ w).alloc (Nat.le_refl _) (.cells #[.slice Af nf cf, .int .i64 rc, .slice A n c] 110)).trans (hb1.mono (by simp)))
  clear hb1
  go_wp2
  go_ret
  exact ⟨rfl, HB.out⟩

set_option maxRecDepth 100000 in
set_option maxHeartbeats 1000000 in
theorem sweepOuter_any (B : Nat) (s : List Int) (Af A : Option Addr) (nf cf n c t : Nat) (l : List Smp) (w : World) (hL : LI w B Af nf (flk s)) (h0 : RS w B A n l) (hB : B ≤ w.heap.size) (hs : Shp s) (he : Edg l) (ht : t < n) (hn : n ≤ 4096) :
    Calls Try.prog 141 #[.agg #[.slice Af nf cf, .int .i64 ((s.length - 1 : Nat) : Int), .slice A n c], .int .i64 t] w fun e w' => e = .returned (.int .i64 (dl s n (outW l) t)) ∧ Below w.heap.size w w' := by
  have H0 := Lib.hid h0
  have HL := Lib.hid hL
  have HSH := Lib.hid hs
  have HE := Lib.hid he
  have EDGE := Lib.hid (fun W (hb : Below w.heap.size w W) => sweepEdge_any B 106 #[.slice A n c] #[] (outW l) s Af A nf cf n c t W (hL.below hb hB) (Nat.le_trans hB hb.size)
    (FunIs.outer B A n c l t (s.length - 1) W (h0.below hb hB) (Nat.le_trans hB hb.size)) hs ht hn (fun u hu => by have h := he.2 u (by have := nbr_lt hu; have := h0.1; omega); omega))
  obtain ⟨R, hR⟩ : ∃ R, dl s n (outW l) t = R := ⟨_, rfl⟩
  rw [hR]
  have EDGE : Hid (∀ W, Below w.heap.size w W → Calls Try.prog 142 #[.agg #[.slice Af nf cf, .int .i64 ((s.length - 1 : Nat) : Int), .slice A n c], .func (.func 106) #[.slice A n c] #[], .int .i64 t] W fun e w' => e = .returned (.int .i64 R) ∧ Below W.heap.size W w') := Lib.hid (fun W hb => by rw [← hR]; exact EDGE.out W hb)
  obtain ⟨rc, hrc⟩ : ∃ rc, s.length - 1 = rc := ⟨_, rfl⟩
  rw [hrc] at EDGE
  rw [hrc]
  clear hL h0 hs he hR hrc
  go_enter Try.func141, Try.ntmps141
  go_wp2_with fail
  refine (EDGE.out _ ((Below.refl _ _).alloc (Nat.le_refl _) _)).mono ?_
  rintro e w1 ⟨rfl, hb1⟩
  have HB := Lib.hid (((Below.refl _ w).alloc (Nat.le_refl _) (.cells #[.slice Af nf cf, .int .i64 rc, .slice A n c] 142)).trans (hb1.mono (by simp)))
  clear hb1
  go_wp2
  go_ret
  exact ⟨rfl, HB.out⟩

set_option maxRecDepth 100000 in
set_option maxHeartbeats 1000000 in
theorem sweepInner_any (B : Nat) (s : List Int) (Af A : Option Addr) (nf cf n c t : Nat) (l : List Smp) (w : World) (hL : LI w B Af nf (flk s)) (h0 : RS w B A n l) (hB : B ≤ w.heap.size) (hs : Shp s) (he : Edg l) (ht : t < n) (hn : n ≤ 4096) :
    Calls Try.prog 140 #[.agg #[.slice Af nf cf, .int .i64 ((s.length - 1 : Nat) : Int), .slice A n c], .int .i64 t] w fun e w' => e = .returned (.int .i64 (dl s n (innW l) t)) ∧ Below w.heap.size w w' := by
  have H0 := Lib.hid h0
  have HL := Lib.hid hL
  have HSH := Lib.hid hs
  have HE := Lib.hid he
  have EDGE := Lib.hid (fun W (hb : Below w.heap.size w W) => sweepEdge_any B 107 #[.slice A n c] #[] (innW l) s Af A nf cf n c t W (hL.below hb hB) (Nat.le_trans hB hb.size)
    (FunIs.inner B A n c l t (s.length - 1) W (h0.below hb hB) (Nat.le_trans hB hb.size) he) hs ht hn (fun u hu => by have h := he.1 u (by have := nbr_lt hu; have := h0.1; omega); omega))
  obtain ⟨R, hR⟩ : ∃ R, dl s n (innW l) t = R := ⟨_, rfl⟩
  rw [hR]
  have EDGE : Hid (∀ W, Below w.heap.size w W → Calls Try.prog 142 #[.agg #[.slice Af nf cf, .int .i64 ((s.length - 1 : Nat) : Int), .slice A n c], .func (.func 107) #[.slice A n c] #[], .int .i64 t] W fun e w' => e = .returned (.int .i64 R) ∧ Below W.heap.size W w') := Lib.hid (fun W hb => by rw [← hR]; exact EDGE.out W hb)
  obtain ⟨rc, hrc⟩ : ∃ rc, s.length - 1 = rc := ⟨_, rfl⟩
  rw [hrc] at EDGE
  rw [hrc]
  clear hL h0 hs he hR hrc
  go_enter Try.func140, Try.ntmps140
  go_wp2_with fail
  refine (EDGE.out _ ((Below.refl _ _).alloc (Nat.le_refl _) _)).mono ?_
  rintro e w1 ⟨rfl, hb1⟩
  have HB := Lib.hid (((Below.refl _ w).alloc (Nat.le_refl _) (.cells #[.slice Af nf cf, .int .i64 rc, .slice A n c] 142)).trans (hb1.mono (by simp)))
  clear hb1
  go_wp2
  go_ret
  exact ⟨rfl, HB.out⟩
end Go.Proofs.Ytjdnpgilinfkgaa
