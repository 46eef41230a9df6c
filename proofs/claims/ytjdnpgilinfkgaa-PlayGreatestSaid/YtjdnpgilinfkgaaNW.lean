/-
  The walk of PlayGreatest.
-/
import Derived.Test.YtjdnpgilinfkgaaNV
import Derived.Test.YtjdnpgilinfkgaaNL
import Derived.Test.YtjdnpgilinfkgaaMF
namespace Go.Proofs.Ytjdnpgilinfkgaa
open Go.RowKit

set_option maxRecDepth 100000 in
set_option maxHeartbeats 4000000 in
theorem greatest_walk (B : Nat) (A : Option Addr) (n k : Nat) (l : List Smp) (arc most : Int) (w : World) (h0 : RS w B A n l) (hB : B ≤ w.heap.size) (hl : n ≤ 9223372036854775807) :
    Calls Try.prog 4 #[.slice A n k, .int .i64 arc, .int .i64 most] w fun e w' => e = .returned (.bool true) ∧ Below w.heap.size w w' := by
  have H := Lib.hid h0
  clear h0
  obtain ⟨g, hg⟩ : ∃ y, gtV l arc most = y := ⟨_, rfl⟩
  obtain ⟨er_, he⟩ : ∃ y, gtEr l arc most = y := ⟨_, rfl⟩
  have HG := Lib.hid (And.intro hg he)
  clear hg he
  cases hb_ : lng6 n 20
  · have HB : Hid (Below w.heap.size w w) := Lib.hid (Below.refl _ _)
    go_enter Try.func4, Try.ntmps4
    go_wp2_with fail
    have CALL := long6_any A n k 20 w
    rw [hb_] at CALL
    refine CALL.mono ?_
    rintro e w_ ⟨rfl, rfl⟩
    clear CALL
    go_wp2_with fail
    have CALL := Greatest_any w.heap.size A n k l arc most w (H.out.more (by omega)) (Nat.le_refl _) (by omega)
    rw [HG.out.1, HG.out.2] at CALL
    refine CALL.mono ?_
    rintro e w1 ⟨rfl, hb⟩
    clear CALL
    have hsz1 := hb.size
    replace H := Lib.hid (H.out.below hb (by omega))
    replace HB := Lib.hid (HB.out.trans (hb.mono (by omega)))
    clear hb
    go_wp2_with fail
    have CALL := refGreatest_any w1.heap.size A n k l arc most w1 (H.out.more (by omega)) (Nat.le_refl _) (by omega)
    rw [HG.out.1, HG.out.2] at CALL
    refine CALL.mono ?_
    rintro e w2 ⟨rfl, hb⟩
    clear CALL
    have hsz2 := hb.size
    replace H := Lib.hid (H.out.below hb (by omega))
    replace HB := Lib.hid (HB.out.trans (hb.mono (by omega)))
    clear hb
    go_wp2_with fail
    have CALL := works6_any w2
    refine CALL.mono ?_
    rintro e w3 ⟨rfl, hb⟩
    clear CALL
    have hsz3 := hb.size
    replace H := Lib.hid (H.out.below hb (by omega))
    replace HB := Lib.hid (HB.out.trans (hb.mono (by omega)))
    clear hb
    go_wp2
    go_ret
    exact ⟨rfl, HB.out⟩
  · have HB : Hid (Below w.heap.size w w) := Lib.hid (Below.refl _ _)
    go_enter Try.func4, Try.ntmps4
    go_wp2_with fail
    have CALL := long6_any A n k 20 w
    rw [hb_] at CALL
    refine CALL.mono ?_
    rintro e w_ ⟨rfl, rfl⟩
    clear CALL
    go_wp2_with fail
    have CALL := works6_any w
    refine CALL.mono ?_
    rintro e w1 ⟨rfl, hb⟩
    clear CALL
    have hsz1 := hb.size
    replace H := Lib.hid (H.out.below hb (by omega))
    replace HB := Lib.hid (HB.out.trans (hb.mono (by omega)))
    clear hb
    go_wp2
    go_ret
    exact ⟨rfl, HB.out⟩
end Go.Proofs.Ytjdnpgilinfkgaa
