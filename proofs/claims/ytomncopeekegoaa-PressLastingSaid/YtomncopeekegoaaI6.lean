/-
  The earliest time for a disc after others.
-/
import Derived.Test.YtomncopeekegoaaI5
import Derived.Test.YtomncopeekegoaaIr
namespace Go.Proofs.Ytomncopeekegoaa
open Go.RowKit Go.Shelf
attribute [local go_sem] Oper.semAt_some

theorem ear_snoc (pre : List Int) (x : Int) : (pre ++ [x]).foldl max 0 = max (pre.foldl max 0) x := by simp
set_option maxRecDepth 100000 in
set_option maxHeartbeats 4000000 in
theorem earliest_any (B p b : Nat) (st rs : Int) (A : Option Addr) (n c : Nat) (l : List Int) (w : World) (h0 : LI w B A n l) (hB : B ≤ w.heap.size)
    (hp : 1 ≤ p ∧ p ≤ 64) (hb : 1 ≤ b ∧ b ≤ 64) (hst : 1 ≤ st ∧ st ≤ 65536) (hrs : 1 ≤ rs ∧ rs ≤ 65536) (hn : n ≤ 1099511627776) (hl : ∀ x ∈ l, 0 ≤ x ∧ x ≤ 9223372036854775807) :
    Calls Try.prog 59 #[.agg #[.int .i64 p, .int .i64 b, .int .i64 st, .int .i64 rs], .slice A n c] w fun e w' => e = .returned (.int .u64 (ear p b st rs l)) ∧ Below w.heap.size w w' := by
  have HL := Lib.hid h0
  have HALL := Lib.hid hl
  obtain ⟨r, hear⟩ : ∃ r, ear p b st rs l = r := ⟨_, rfl⟩
  rw [hear]
  have HEAR := Lib.hid hear
  clear h0 hl hear
  refine (callsIn_wide (n := 12)).1 ?_
  refine callsIn_of_wp_marks Try.func59 rfl trivial ?_ rfl
  simp only [Try.ntmps59, List.size_toArray, List.length_cons, List.length_nil, Nat.reduceAdd, Nat.reduceSub, Array.replicate_succ, Array.replicate_zero, List.push_toArray, List.append_toArray, List.nil_append, List.cons_append]
  have f83 : Fence.wide.fn 83 := trivial
  gi_wp2_with fail
  refine (callsIn_wide.2 (ends_any _ _ _ _ _ _ _ _)).mono ?_
  rintro e w' ⟨rfl, rfl⟩
  gi_wp2_with fail
  obtain ⟨W1, hW1⟩ : ∃ W1, (((w.alloc (.cells #[.int .i64 p, .int .i64 b, .int .i64 st, .int .i64 rs] 109)).alloc (.cells #[.int .u64 0] 111)).alloc (.cells #[.int .i64 p, .int .i64 b, .int .i64 st, .int .i64 rs] 109)).alloc (.cells #[.slice A n c] 37) = W1 := ⟨_, rfl⟩
  have hb1 : Below w.heap.size w W1 := by rw [← hW1]; exact ((((Below.refl _ _).alloc (Nat.le_refl _) _).alloc (by simp) _).alloc (by simp; omega) _).alloc (by simp; omega) _
  have k1 : Blk W1 (w.heap.size + 1) 111 #[.int .u64 0] := by rw [← hW1]; exact ((blk_al (by simp)).alloc _).alloc _
  have k2 : Blk W1 (w.heap.size + 1 + 1) 109 #[.int .i64 p, .int .i64 b, .int .i64 st, .int .i64 rs] := by rw [← hW1]; exact (blk_al (by simp)).alloc _
  have k3 : Blk W1 (w.heap.size + 1 + 1 + 1) 37 #[.slice A n c] := by rw [← hW1]; exact blk_al (by simp)
  rw [hW1]
  clear hW1
  have hs1 := hb1.size
  have SEQ := ends1_all (12 - 1) (w.heap.size + 1 + 1 + 1) (w.heap.size + 1 + 1) B p b st rs A n c l (fun k => k = w.heap.size + 1) W1 (by omega) k3 k2 (HL.out.below hb1 hB) (by omega) (by omega) (by omega) (fun x hx => by omega) hp hb hst hrs hn HALL.out
  obtain ⟨us, hus⟩ : ∃ us, endU p b st rs l = us := ⟨_, rfl⟩
  rw [hus] at SEQ
  have HR : Hid (us.foldl max 0 = r) := Lib.hid (by rw [← hus]; exact HEAR.out)
  clear hus k2 k3 HL HALL HEAR
  refine wpIn_rangeAll rfl (by omega) (gf := 93) (lb := #[.pointer (some ⟨w.heap.size + 1 + 1 + 1, 0, none⟩), .pointer (some ⟨w.heap.size + 1 + 1, 0, none⟩)]) rfl trivial (enters_of Try.func93 (by kernel_rfl) rfl)
    SEQ (Below.refl _ _) (fun _ => rfl)
    (fun pre X => Blk X (w.heap.size + 1) 111 #[.int .u64 (pre.foldl max 0)] ∧ Below w.heap.size w X) ?hI ?h0
    (fun pre x a' X => (Blk X (w.heap.size + 1) 111 #[.int .u64 (pre.foldl max 0)] ∧ Below w.heap.size w X) ∧ a' = { tmps := #[.agg #[.int .i64 p, .int .i64 b, .int .i64 st, .int .i64 rs], .slice A n c, .pointer (some ⟨w.heap.size, 0, none⟩), undef, .int .u64 0, .pointer (some ⟨w.heap.size + 1, 0, none⟩), .int .u64 x, .agg #[.int .i64 p, .int .i64 b, .int .i64 st, .int .i64 rs], .slice A n c, .func (.func 93) #[] #[.pointer (some ⟨w.heap.size + 1 + 1 + 1, 0, none⟩), .pointer (some ⟨w.heap.size + 1 + 1, 0, none⟩)], .int .u64 x, undef, undef, undef, undef], defers := [] }) ?hAx ?assign ?body ?done
  case hI =>
    rintro s X Y row ⟨i1, i3⟩ hgr hr
    have hk := fun r e => (hr r e).2
    exact ⟨blk_keptR i1 hgr hk, i3.grown hgr i3.size (fun q e => by have := (hr q e).1; omega)⟩
  case h0 => exact ⟨k1, hb1⟩
  case hAx =>
    rintro pre x a' s X Y row ⟨⟨i1, i3⟩, h3⟩ hgr hr
    have hk := fun r e => (hr r e).2
    exact ⟨⟨blk_keptR i1 hgr hk, i3.grown hgr i3.size (fun q e => by have := (hr q e).1; omega)⟩, h3⟩
  case assign =>
    rintro l' pre x X K hi hK
    gi_wp2
    exact hK _ _ (World.grownBy.refl X none) ⟨hi, rfl⟩
  case body =>
    rintro L pre x a' X hL ⟨⟨i1, i3⟩, rfl⟩ hpre
    have hsn := ear_snoc pre x
    obtain ⟨m, hm⟩ : ∃ m, pre.foldl max 0 = m := ⟨_, rfl⟩
    obtain ⟨m', hm'⟩ : ∃ m', (pre ++ [x]).foldl max 0 = m' := ⟨_, rfl⟩
    rw [hm] at i1 hsn
    rw [hm'] at hsn
    have hmi : (if x < m then m else x) = m' := by rw [hsn]; split <;> omega
    have hmi2 : (if m < x then x else m) = m' := by rw [hsn]; split <;> omega
    have I1 := Lib.hid i1
    have I3 := Lib.hid i3
    have HM := Lib.hid hm'
    clear hpre hsn hm hm' SEQ k1 hb1
    have c1 := i1.one.1
    have c2 := i1.one.2.1
    clear i1 i3
    gi_wp2_with fail
    refine ⟨(KeepsOthers.setCell _ _ _).from _, (Bel.refl (fun k => k = w.heap.size + 1) X).setCell (p := ⟨w.heap.size + 1, 0, none⟩) (.inr rfl) _, ?_, I3.out.setCell (p := ⟨w.heap.size + 1, 0, none⟩) (by show w.heap.size ≤ w.heap.size + 1; omega) _⟩
    rw [HM.out]
    exact I1.out.set_ 0 _
  case done =>
    rintro D X hD ⟨i1, i3⟩ hK
    rw [HR.out] at i1
    have c1 := i1.one.1
    have HK := Lib.hid hK
    have HD := Lib.hid hD
    have I3 := Lib.hid i3
    clear i1 i3 hK hD k1 hb1 SEQ
    gi_wp2
    have hgp := grownBy_putObj' X D (.deferred none)
    refine ⟨by simp, .inl ⟨_, _, rfl, run_takeDeferred HK.out, ?_⟩⟩
    exact ⟨_, results_tmp rfl _ _ _, rfl, I3.out.grown hgp I3.out.size (fun q e => by cases e; have := HD.out; omega)⟩
end Go.Proofs.Ytomncopeekegoaa
