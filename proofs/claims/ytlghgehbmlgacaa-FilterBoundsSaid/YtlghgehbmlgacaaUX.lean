/-
  The walk of FilterBounds.
-/
import Derived.Test.YtlghgehbmlgacaaUF
import Derived.Test.YtlghgehbmlgacaaUK
import Derived.Test.YtlghgehbmlgacaaUW
namespace Go.Proofs.Ytlghgehbmlgacaa
open Go.RowKit

set_option maxRecDepth 100000 in
set_option maxHeartbeats 4000000 in
theorem bounds_walk (B : Nat) (t : CV) (m : Int) (w : World) (hc : CI w B t) (hB : B ≤ w.heap.size) (hs : t.nf ≤ 9223372036854775807 ∧ t.nb ≤ 9223372036854775807) :
    Calls Try.prog 6 #[.agg #[.slice t.Af t.nf t.kf, .slice t.Ab t.nb t.kb, .int .i64 t.c.share], .int .i64 m] w fun e w' => e = .returned (.bool true) ∧ Below w.heap.size w w' := by
  have HC := Lib.hid (hc.more hB)
  clear hc hB
  have hcs : CSm [t] := fun u hu => by rw [List.mem_singleton.1 hu]; exact hs
  obtain ⟨b1, hb1⟩ : ∃ R, bndV t.c m = R := ⟨_, rfl⟩
  obtain ⟨b2, hb2⟩ : ∃ R, bndEr t.c m = R := ⟨_, rfl⟩
  obtain ⟨h1, hh1⟩ : ∃ R, hdrV t.c = R := ⟨_, rfl⟩
  obtain ⟨h2, hh2⟩ : ∃ R, hdrEr t.c = R := ⟨_, rfl⟩
  have HB1 := Lib.hid hb1
  have HB2 := Lib.hid hb2
  have HH1 := Lib.hid hh1
  have HH2 := Lib.hid hh2
  clear hb1 hb2 hh1 hh2
  cases hv1 : chnB ([t].map CV.c)
  · have HV1 := Lib.hid hv1
    clear hv1
    as_aux_lemma =>
      go_enter Try.func6, Try.ntmps6
      go_upto_region 1 with fail
      obtain ⟨w1, hW⟩ : ∃ W, w.alloc (.cells #[.slice t.Af t.nf t.kf, .slice t.Ab t.nb t.kb, .int .i64 t.c.share] 24) = W := ⟨_, rfl⟩
      have hb : Below w.heap.size w w1 := by rw [← hW]; exact (Below.refl _ _).alloc (Nat.le_refl _) _
      have hsz1 := hb.size
      replace HC := Lib.hid (HC.out.below hb (by omega))
      have HK : Hid (Blk w1 w.heap.size 24 #[.slice t.Af t.nf t.kf, .slice t.Ab t.nb t.kb, .int .i64 t.c.share]) := Lib.hid (by rw [← hW]; exact Blk.new _ _ _)
      have HB := Lib.hid hb
      try rw [hW]
      clear hW hb
      obtain ⟨c0, c1, c2⟩ := HK.out.three_
      go_wp2_with fail
      obtain ⟨w2, hW⟩ : ∃ W, w1.alloc (.cells #[.slice t.Af t.nf t.kf, .slice t.Ab t.nb t.kb, .int .i64 t.c.share] 24) = W := ⟨_, rfl⟩
      have hb : Below w1.heap.size w1 w2 := by rw [← hW]; exact (Below.refl _ _).alloc (Nat.le_refl _) _
      have hsz2 := hb.size
      replace HC := Lib.hid (HC.out.below hb (by omega))
      replace HK := Lib.hid (HK.out.below hb HK.out.lt)
      replace HB := Lib.hid (HB.out.trans (hb.mono (by omega)))
      have HD : Hid (Blk w2 w1.heap.size 24 #[.slice t.Af t.nf t.kf, .slice t.Ab t.nb t.kb, .int .i64 t.c.share]) := Lib.hid (by rw [← hW]; exact Blk.new _ _ _)
      try rw [hW]
      clear hW hb
      obtain ⟨c0, c1, c2⟩ := HK.out.three_
      have CALL := chains_any w2.heap.size (some ⟨w1.heap.size, 0, none⟩) 1 1 [t] w2 (rc_one HD.out HD.out.lt (HC.out.more (by omega))) (Nat.le_refl _) (by omega) hcs
      rw [HV1.out] at CALL
      refine CALL.mono ?_
      rintro e w_ ⟨rfl, rfl⟩
      clear CALL HD
      go_wp2_with fail
      have CALL := Bound_any w2.heap.size t m w2 (HC.out.more (by omega)) (Nat.le_refl _) hs
      rw [HB1.out, HB2.out] at CALL
      refine CALL.mono ?_
      rintro e w3 ⟨rfl, hb⟩
      clear CALL
      have hsz3 := hb.size
      replace HC := Lib.hid (HC.out.below hb (by omega))
      replace HK := Lib.hid (HK.out.below hb HK.out.lt)
      replace HB := Lib.hid (HB.out.trans (hb.mono (by omega)))

      clear hb
      obtain ⟨c0, c1, c2⟩ := HK.out.three_
      go_wp2_with fail
      have CALL := refBound_any w3.heap.size t m w3 (HC.out.more (by omega)) (Nat.le_refl _) hs
      rw [HB1.out, HB2.out] at CALL
      refine CALL.mono ?_
      rintro e w4 ⟨rfl, hb⟩
      clear CALL
      have hsz4 := hb.size
      replace HC := Lib.hid (HC.out.below hb (by omega))
      replace HK := Lib.hid (HK.out.below hb HK.out.lt)
      replace HB := Lib.hid (HB.out.trans (hb.mono (by omega)))

      clear hb
      obtain ⟨c0, c1, c2⟩ := HK.out.three_
      go_wp2_with fail
      have CALL := Headroom_any w4.heap.size t w4 (HC.out.more (by omega)) (Nat.le_refl _) hs
      rw [HH1.out, HH2.out] at CALL
      refine CALL.mono ?_
      rintro e w5 ⟨rfl, hb⟩
      clear CALL
      have hsz5 := hb.size
      replace HC := Lib.hid (HC.out.below hb (by omega))
      replace HK := Lib.hid (HK.out.below hb HK.out.lt)
      replace HB := Lib.hid (HB.out.trans (hb.mono (by omega)))

      clear hb
      obtain ⟨c0, c1, c2⟩ := HK.out.three_
      go_wp2_with fail
      have CALL := refHeadroom_any w5.heap.size t w5 (HC.out.more (by omega)) (Nat.le_refl _) hs
      rw [HH1.out, HH2.out] at CALL
      refine CALL.mono ?_
      rintro e w6 ⟨rfl, hb⟩
      clear CALL
      have hsz6 := hb.size
      replace HC := Lib.hid (HC.out.below hb (by omega))
      replace HK := Lib.hid (HK.out.below hb HK.out.lt)
      replace HB := Lib.hid (HB.out.trans (hb.mono (by omega)))

      clear hb
      obtain ⟨c0, c1, c2⟩ := HK.out.three_
      go_wp2_with fail
      have CALL := works_any w6
      refine CALL.mono ?_
      rintro e w7 ⟨rfl, hb⟩
      clear CALL
      have hsz7 := hb.size
      replace HC := Lib.hid (HC.out.below hb (by omega))
      replace HK := Lib.hid (HK.out.below hb HK.out.lt)
      replace HB := Lib.hid (HB.out.trans (hb.mono (by omega)))

      clear hb
      obtain ⟨c0, c1, c2⟩ := HK.out.three_
      go_wp2
      go_ret
      exact ⟨rfl, HB.out⟩
  · have HV1 := Lib.hid hv1
    clear hv1
    as_aux_lemma =>
      go_enter Try.func6, Try.ntmps6
      go_upto_region 1 with fail
      obtain ⟨w1, hW⟩ : ∃ W, w.alloc (.cells #[.slice t.Af t.nf t.kf, .slice t.Ab t.nb t.kb, .int .i64 t.c.share] 24) = W := ⟨_, rfl⟩
      have hb : Below w.heap.size w w1 := by rw [← hW]; exact (Below.refl _ _).alloc (Nat.le_refl _) _
      have hsz1 := hb.size
      replace HC := Lib.hid (HC.out.below hb (by omega))
      have HK : Hid (Blk w1 w.heap.size 24 #[.slice t.Af t.nf t.kf, .slice t.Ab t.nb t.kb, .int .i64 t.c.share]) := Lib.hid (by rw [← hW]; exact Blk.new _ _ _)
      have HB := Lib.hid hb
      try rw [hW]
      clear hW hb
      obtain ⟨c0, c1, c2⟩ := HK.out.three_
      go_wp2_with fail
      obtain ⟨w2, hW⟩ : ∃ W, w1.alloc (.cells #[.slice t.Af t.nf t.kf, .slice t.Ab t.nb t.kb, .int .i64 t.c.share] 24) = W := ⟨_, rfl⟩
      have hb : Below w1.heap.size w1 w2 := by rw [← hW]; exact (Below.refl _ _).alloc (Nat.le_refl _) _
      have hsz2 := hb.size
      replace HC := Lib.hid (HC.out.below hb (by omega))
      replace HK := Lib.hid (HK.out.below hb HK.out.lt)
      replace HB := Lib.hid (HB.out.trans (hb.mono (by omega)))
      have HD : Hid (Blk w2 w1.heap.size 24 #[.slice t.Af t.nf t.kf, .slice t.Ab t.nb t.kb, .int .i64 t.c.share]) := Lib.hid (by rw [← hW]; exact Blk.new _ _ _)
      try rw [hW]
      clear hW hb
      obtain ⟨c0, c1, c2⟩ := HK.out.three_
      have CALL := chains_any w2.heap.size (some ⟨w1.heap.size, 0, none⟩) 1 1 [t] w2 (rc_one HD.out HD.out.lt (HC.out.more (by omega))) (Nat.le_refl _) (by omega) hcs
      rw [HV1.out] at CALL
      refine CALL.mono ?_
      rintro e w_ ⟨rfl, rfl⟩
      clear CALL HD
      go_wp2_with fail
      have CALL := works_any w2
      refine CALL.mono ?_
      rintro e w3 ⟨rfl, hb⟩
      clear CALL
      have hsz3 := hb.size
      replace HC := Lib.hid (HC.out.below hb (by omega))
      replace HK := Lib.hid (HK.out.below hb HK.out.lt)
      replace HB := Lib.hid (HB.out.trans (hb.mono (by omega)))

      clear hb
      obtain ⟨c0, c1, c2⟩ := HK.out.three_
      go_wp2
      go_ret
      exact ⟨rfl, HB.out⟩
end Go.Proofs.Ytlghgehbmlgacaa
