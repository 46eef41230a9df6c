/-
  The walk of LatheRefused.
-/
import Derived.Test.YtgdkcbnpgpjnbaaL16
import Derived.Test.YtgdkcbnpgpjnbaaL35
import Derived.Test.YtgdkcbnpgpjnbaaL38
import Derived.Test.YtgdkcbnpgpjnbaaL26
namespace Go.Proofs.Ytgdkcbnpgpjnbaa
open Go.RowKit

theorem el_steps : Try.prog.elem 36 = 52 := by kernel_rfl
theorem size_stN (W : World) : (sizeOf 52).run Try.prog W = .ok 2 W := by kernel_rfl
def rstS (A : Option Addr) (c m : Nat) : Option Addr := if c = m then A else A.map (·.add (m * 2))
theorem steps_from (A : Option Addr) (kl : IntKind) (m n c : Nat) (h : m ≤ n) (W : World) : (Instr.slice 36 (.slice A n c) (some (.int kl (m : Int))) none none).run Try.prog W = .ok (.slice (rstS A c m) (n - m) (c - m)) W := by
  rw [run_slice_l (P := Try.prog) W 36 A n c (by rw [el_steps]; exact Try.underlying36) kl (m : Int) (by omega) (by omega), el_steps, size_stN]
  simp [sliced, Result.andThen, rstS]
theorem steps_to (A : Option Addr) (m n c : Nat) (h : m ≤ c) (W : World) : (Instr.slice 36 (.slice A n c) none (some (.int .i64 (m : Int))) none).run Try.prog W = .ok (.slice A m c) W := by
  rw [run_slice_h (P := Try.prog) W 36 A n c (by rw [el_steps]; exact Try.underlying36) .i64 (m : Int) (by omega) (by omega), el_steps, size_stN]
  by_cases h0 : c = 0
  · subst h0
    simp [sliced, Result.andThen]
  · have e : A.map (fun x => x.add 0) = A := by cases A <;> simp [Addr.add]
    simp [sliced, Result.andThen, h0, e]
theorem smpCells_drop (l : List Smp) (m : Nat) : smpCells (l.drop m) = (smpCells l).drop (m * 2) := by
  induction m generalizing l with
  | zero => simp
  | succ m ih =>
    cases l with
    | nil => simp [smpCells]
    | cons s l =>
      rw [List.drop_succ_cons, ih]
      show _ = ([Value.int .i64 s.1, Value.int .i64 s.2] ++ smpCells l).drop ((m + 1) * 2)
      rw [show (m + 1) * 2 = m * 2 + 1 + 1 by omega]
      rfl
theorem RS.drop {w : World} {B : Nat} {A : Option Addr} {n c : Nat} {l : List Smp} (h : RS w B A n l) (m : Nat) (hm : m ≤ n) (hc : n ≤ c) : RS w B (rstS A c m) (n - m) (l.drop m) := by
  obtain ⟨rfl, h⟩ := h
  refine ⟨by rw [List.length_drop], by rw [smpCells_length, List.length_drop], fun hn => ?_⟩
  obtain ⟨ad, rfl, hb, hcell⟩ := h.2 (by omega)
  unfold rstS
  rw [if_neg (by omega)]
  refine ⟨ad.add (m * 2), rfl, by rw [block_of_add]; exact hb, fun j u hu => ?_⟩
  rw [add_of_add]
  refine hcell _ u ?_
  rw [smpCells_drop, List.getElem?_drop] at hu
  exact hu
theorem own_rsU {w : World} {base n : Nat} {v : Value} {l : List Smp} (h : w.ownsRow base 52 2 v n (smpCells l)) (hn : n = l.length) : ∃ A c, v = .slice A n c ∧ RS w w.heap.size A n l ∧ n ≤ c := by
  obtain ⟨A, c, rfl, h1⟩ := own_reads h
  refine ⟨A, c, rfl, ⟨hn, h1⟩, ?_⟩
  rcases h.2 with ⟨e, hn⟩ | ⟨g, cap, cur, e, _, _, h2, _⟩
  · simp only [Value.slice.injEq] at e; omega
  · simp only [Value.slice.injEq] at e; omega
theorem cells_one (l : List Smp) : ∀ u ∈ smpCells l, u.oneCell' = true := by
  induction l with
  | nil => intro u hu; simp [smpCells] at hu
  | cons s l ih =>
    intro u hu
    have hu : u ∈ [Value.int .i64 s.1, Value.int .i64 s.2] ++ smpCells l := hu
    rw [List.mem_append] at hu
    rcases hu with hu | hu
    · simp at hu
      rcases hu with rfl | rfl <;> rfl
    · exact ih u hu
structure RwS (V W : World) (v : Value) (m : Nat) (xs : List Value) : Prop where
  own : W.ownsRow V.heap.size 52 2 v m xs
  bel : Below V.heap.size V W
theorem rwS_nil (V W : World) (h : Below V.heap.size V W) : RwS V (W.alloc (.cells #[] 52)) (.slice (some ⟨W.heap.size, 0, none⟩) 0 0) 0 [] :=
  ⟨World.ownsRow_lit (base := V.heap.size) (e := 52) (size := 2) W #[] 0 h.size (by unfold maxLen; omega) rfl, h.alloc h.size _⟩
theorem RwS.dr {V W : World} {v : Value} {m : Nat} {xs : List Value} (h : RwS V W v m xs) : RwS V W.drew v m xs := ⟨h.own.drew, h.bel.drew⟩
theorem rwS_a (V : World) : RwS V (V.alloc (.cells #[] 52)).drew (.slice (some ⟨V.heap.size, 0, none⟩) 0 0) 0 [] := (rwS_nil V V (Below.refl _ _)).dr
theorem grownS {w w' : World} {B : Nat} {row : Option Nat} (h : w.grownBy w' row) (hB : B ≤ w.heap.size) (hr : ∀ k, row = some k → B ≤ k) : Below B w w' :=
  ⟨h.os, h.tape, h.output, h.size, fun k hk => h.block k (Nat.lt_of_lt_of_le hk hB) (fun e => by have := hr k e.symm; omega)⟩
theorem RwS.grow {V W W' : World} {v v' : Value} {m m' : Nat} {xs xs' : List Value} (h : RwS V W v m xs) (hg : W.grownBy W' v.ownBlock) (ho : W'.ownsRow V.heap.size 52 2 v' m' xs') : RwS V W' v' m' xs' :=
  ⟨ho, h.bel.trans (grownS hg h.bel.size (fun k hk => (h.own.lt k hk).1))⟩
theorem smpCells_app (a b : List Smp) : smpCells a ++ smpCells b = smpCells (a ++ b) := by
  unfold smpCells
  rw [List.flatMap_append]
theorem crf_vld {b : Bk} {P S : List Smp} (h : vldG b P = true) (hl : S.length ≤ 16384) : crfE b P S = if prv b P S = true then 0 else 16 := by
  unfold crfE
  rw [if_pos (vld_er h).1, if_neg (by omega)]
theorem refE_none {b : Bk} {P : List Smp} (h : vldG b P = true) (hs : sol b P P.length = none) : refE b P = 0 := by
  unfold refE; rw [if_pos (vld_er h).1, hs]
theorem refE_some {b : Bk} {P : List Smp} {X : List Int} (h : vldG b P = true) (hs : sol b P P.length = some X) : refE b P = 5 := by
  unfold refE; rw [if_pos (vld_er h).1, hs]
theorem tmodR (f : Int) (n : Nat) (h : 0 ≤ f) (hn : 0 < n) : ∃ a : Nat, f.tmod (n : Int) = (a : Int) ∧ a < n := by
  refine ⟨(f.tmod (n : Int)).toNat, ?_, ?_⟩
  · have := Int.tmod_nonneg (n : Int) h; omega
  · have h1 := Int.tmod_lt_of_pos f (show 0 < (n : Int) by omega); have := Int.tmod_nonneg (n : Int) h; omega

set_option maxRecDepth 100000 in
set_option maxHeartbeats 8000000 in
theorem refused_walk (B : Nat) (A AS AR : Option Addr) (n c m d mr dr : Nat) (b : Bk) (P S : List Smp) (R : List Int) (q : Int) (w : World) (h0 : RS w B A n P) (h1 : RS w B AS m S) (h2 : LI w B AR mr R) (hB : B ≤ w.heap.size) (hl : n ≤ 9223372036854775807) (hl' : m ≤ 9223372036854775807) (hl2 : mr ≤ 9223372036854775807) (q0 : 0 ≤ q) (q1 : q ≤ 255) :
    Calls Try.prog 8 #[.agg #[.int .i64 b.per, .int .i64 b.rim, .int .i64 b.core, .int .i64 b.land, .int .i64 b.slow, .int .i64 b.fast], .slice A n c, .slice AS m d, .slice AR mr dr, .int .u8 q] w fun e w' => e = .returned (.bool true) ∧ Below w.heap.size w w' := by
  have HP := Lib.hid (h0.more hB)
  have HS := Lib.hid (h1.more hB)
  have HR := Lib.hid (h2.more hB)
  have HN := Lib.hid h0.1
  have HM := Lib.hid h1.1
  obtain ⟨i0, hi0, hz0, hz1, hz2⟩ := info_partsL info_step
  have HI0 := Lib.hid hi0
  have HZ0 := Lib.hid hz0
  have HZ1 := Lib.hid hz1
  have HZ2 := Lib.hid hz2
  clear h0 h1 h2 hB hi0 hz0 hz1 hz2
  go_enter Try.func8, Try.ntmps8
  go_upto_region 1 with fail
  obtain ⟨w0, hW⟩ : ∃ W, w.alloc (.cells #[.int .i64 b.per, .int .i64 b.rim, .int .i64 b.core, .int .i64 b.land, .int .i64 b.slow, .int .i64 b.fast] 23) = W := ⟨_, rfl⟩
  have hb0 : Below w.heap.size w w0 := by rw [← hW]; exact below_a _ _
  have k0 : Blk w0 w.heap.size 23 #[.int .i64 b.per, .int .i64 b.rim, .int .i64 b.core, .int .i64 b.land, .int .i64 b.slow, .int .i64 b.fast] := by rw [← hW]; exact Blk.new _ _ _
  rw [hW]
  have HB := Lib.hid hb0
  have HK := Lib.hid k0
  obtain ⟨c0, c1, c2, c3, c4, c5⟩ := k0.six
  clear hW hb0 k0
  cases hv : vldG b P with
  | false =>
    have HV := Lib.hid hv
    clear hv
    go_wp2_with fail
    have CALL := valid5_any w.heap.size A n c b P w0 (HP.out.below HB.out (Nat.le_refl _)) HB.out.size hl
    refine CALL.mono ?_
    rintro e w1 ⟨rfl, hb⟩
    clear CALL
    replace HK := Lib.hid (HK.out.below hb HK.out.lt)
    replace HB := Lib.hid (HB.out.trans (hb.mono HB.out.size))
    clear hb c0 c1 c2 c3 c4 c5
    obtain ⟨c0, c1, c2, c3, c4, c5⟩ := HK.out.six
    rw [HV.out]
    go_wp2_with fail
    refine (works5_any _).mono ?_
    rintro e w2 ⟨rfl, hb⟩
    replace HB := Lib.hid (HB.out.trans (hb.mono HB.out.size))
    clear hb
    go_wp2
    go_ret
    exact ⟨rfl, HB.out⟩
  | true =>
    have HV := Lib.hid hv
    by_cases hm : 200 < m
    · have hm1 : (m : Int) > 200 := by omega
      go_wp2_with fail
      have CALL := valid5_any w.heap.size A n c b P w0 (HP.out.below HB.out (Nat.le_refl _)) HB.out.size hl
      refine CALL.mono ?_
      rintro e w3 ⟨rfl, hb⟩
      clear CALL
      replace HK := Lib.hid (HK.out.below hb HK.out.lt)
      replace HB := Lib.hid (HB.out.trans (hb.mono HB.out.size))
      clear hb c0 c1 c2 c3 c4 c5
      obtain ⟨c0, c1, c2, c3, c4, c5⟩ := HK.out.six
      rw [HV.out]
      go_wp2_with fail
      refine (works5_any _).mono ?_
      rintro e w4 ⟨rfl, hb⟩
      replace HB := Lib.hid (HB.out.trans (hb.mono HB.out.size))
      clear hb
      go_wp2
      go_ret
      exact ⟨rfl, HB.out⟩
    · have hm1 : ¬ (m : Int) > 200 := by omega
      by_cases hmr : 100 < mr
      · have hm2 : (mr : Int) > 100 := by omega
        go_wp2_with fail
        have CALL := valid5_any w.heap.size A n c b P w0 (HP.out.below HB.out (Nat.le_refl _)) HB.out.size hl
        refine CALL.mono ?_
        rintro e w5 ⟨rfl, hb⟩
        clear CALL
        replace HK := Lib.hid (HK.out.below hb HK.out.lt)
        replace HB := Lib.hid (HB.out.trans (hb.mono HB.out.size))
        clear hb c0 c1 c2 c3 c4 c5
        obtain ⟨c0, c1, c2, c3, c4, c5⟩ := HK.out.six
        rw [HV.out]
        go_wp2_with fail
        refine (works5_any _).mono ?_
        rintro e w6 ⟨rfl, hb⟩
        replace HB := Lib.hid (HB.out.trans (hb.mono HB.out.size))
        clear hb
        go_wp2
        go_ret
        exact ⟨rfl, HB.out⟩
      · have hm2 : ¬ (mr : Int) > 100 := by omega
        have HCS := Lib.hid (crf_vld (S := S) hv (by rw [← HM.out]; omega))
        have HVE := Lib.hid (vld_er hv)
        cases hs : sol b P P.length with
        | some X =>
          have HQE : Hid (outE b P = 0 ∧ refE b P = 5) := Lib.hid ⟨(outE_some hv hs).1, refE_some hv hs⟩
          have HX : Hid (crfE b P S = 16) := Lib.hid (by
            rw [HCS.out, if_neg]
            intro hp
            exact prv_sound HVE.out.2.1 hp ((sol_iff HVE.out.2.1 _).1 ⟨X, hs⟩))
          clear hv hs HCS
          go_wp2_with fail
          have CALL := valid5_any w.heap.size A n c b P w0 (HP.out.below HB.out (Nat.le_refl _)) HB.out.size hl
          refine CALL.mono ?_
          rintro e w7 ⟨rfl, hb⟩
          clear CALL
          replace HK := Lib.hid (HK.out.below hb HK.out.lt)
          replace HB := Lib.hid (HB.out.trans (hb.mono HB.out.size))
          clear hb c0 c1 c2 c3 c4 c5
          obtain ⟨c0, c1, c2, c3, c4, c5⟩ := HK.out.six
          rw [HV.out]
          go_wp2_with fail
          have CALL := Outermost_any w.heap.size A n c b P w7 (HP.out.below HB.out (Nat.le_refl _)) HB.out.size hl
          refine CALL.mono ?_
          rintro e w8 ⟨v, E, rfl, hE, -, hb⟩
          clear CALL
          rw [HQE.out.1] at hE
          subst hE
          replace HK := Lib.hid (HK.out.below hb HK.out.lt)
          replace HB := Lib.hid (HB.out.trans (hb.mono HB.out.size))
          clear hb c0 c1 c2 c3 c4 c5
          obtain ⟨c0, c1, c2, c3, c4, c5⟩ := HK.out.six
          go_wp2_with fail
          have CALL := Refuse_any w.heap.size A n c b P w8 (HP.out.below HB.out (Nat.le_refl _)) HB.out.size hl
          refine CALL.mono ?_
          rintro e w9 ⟨v2, E, l, rfl, hE, hE0, hE1, ho, hb⟩
          clear CALL
          rw [HQE.out.2] at hE
          subst hE
          obtain rfl := hE1 (by omega)
          rw [List.length_nil] at ho
          obtain ⟨Ax, kx, rfl, -⟩ := own_reads ho
          clear ho hE0 hE1
          replace HK := Lib.hid (HK.out.below hb HK.out.lt)
          replace HB := Lib.hid (HB.out.trans (hb.mono HB.out.size))
          clear hb c0 c1 c2 c3 c4 c5
          obtain ⟨c0, c1, c2, c3, c4, c5⟩ := HK.out.six
          go_wp2_with fail
          have CALL := CheckRefusal_any w.heap.size A AS n c m d b P S w9 (HP.out.below HB.out (Nat.le_refl _)) (HS.out.below HB.out (Nat.le_refl _)) HB.out.size hl hl'
          refine CALL.mono ?_
          rintro e w10 ⟨rfl, hb⟩
          clear CALL
          replace HK := Lib.hid (HK.out.below hb HK.out.lt)
          replace HB := Lib.hid (HB.out.trans (hb.mono HB.out.size))
          clear hb c0 c1 c2 c3 c4 c5
          obtain ⟨c0, c1, c2, c3, c4, c5⟩ := HK.out.six
          rw [HX.out]
          go_wp2_with fail
          refine (works5_any _).mono ?_
          rintro e w11 ⟨rfl, hb⟩
          replace HB := Lib.hid (HB.out.trans (hb.mono HB.out.size))
          clear hb
          go_wp2
          go_ret
          exact ⟨rfl, HB.out⟩
        | none =>
          have HQE : Hid (outE b P = 15 ∧ refE b P = 0) := Lib.hid ⟨(outE_none hv hs).1, refE_none hv hs⟩
          have HCR := Lib.hid (fun S h => crf_vld (S := S) hv h)
          obtain ⟨g, hg⟩ : ∃ g, cutE b P R = g := ⟨_, rfl⟩
          have hg0 : g ≠ 0 := by rw [← hg]; exact out_no hv hs
          have hg1 : (g == 0) = false := beq_eq_false_iff_ne.2 hg0
          have HG := Lib.hid hg
          clear hv hs hg hg0
          cases hp : prv b P S with
          | true =>
            have HX : Hid (crfE b P S = 0) := Lib.hid (by rw [HCS.out, if_pos hp])
            clear hp HCS
            go_wp2_with fail
            have CALL := valid5_any w.heap.size A n c b P w0 (HP.out.below HB.out (Nat.le_refl _)) HB.out.size hl
            refine CALL.mono ?_
            rintro e w12 ⟨rfl, hb⟩
            clear CALL
            replace HK := Lib.hid (HK.out.below hb HK.out.lt)
            replace HB := Lib.hid (HB.out.trans (hb.mono HB.out.size))
            clear hb c0 c1 c2 c3 c4 c5
            obtain ⟨c0, c1, c2, c3, c4, c5⟩ := HK.out.six
            rw [HV.out]
            go_wp2_with fail
            have CALL := Outermost_any w.heap.size A n c b P w12 (HP.out.below HB.out (Nat.le_refl _)) HB.out.size hl
            refine CALL.mono ?_
            rintro e w13 ⟨v, E, rfl, hE, -, hb⟩
            clear CALL
            rw [HQE.out.1] at hE
            subst hE
            replace HK := Lib.hid (HK.out.below hb HK.out.lt)
            replace HB := Lib.hid (HB.out.trans (hb.mono HB.out.size))
            clear hb c0 c1 c2 c3 c4 c5
            obtain ⟨c0, c1, c2, c3, c4, c5⟩ := HK.out.six
            go_wp2_with fail
            have CALL := Refuse_any w.heap.size A n c b P w13 (HP.out.below HB.out (Nat.le_refl _)) HB.out.size hl
            refine CALL.mono ?_
            rintro e w14 ⟨v2, E, l, rfl, hE, hE0, hE1, ho, hb⟩
            clear CALL
            rw [HQE.out.2] at hE
            subst hE
            have hpf := hE0 rfl
            rw [HN.out] at hpf
            obtain ⟨hlen, hhd⟩ := prf_head HVE.out.2.1 HVE.out.2.2.2 hpf
            have hpv := hpf.prv HVE.out.2.1 (Nat.le_refl _)
            have hne := hpf.ne
            obtain ⟨nq, hnq⟩ : ∃ x, l.length = x := ⟨_, rfl⟩
            rw [hnq] at ho hlen hne
            obtain ⟨Aq, kq, rfl, hQ, hqc⟩ := own_rsU ho hnq.symm
            have HQ := Lib.hid hQ
            have HHD := Lib.hid hhd
            have HPV := Lib.hid hpv
            have HNQ := Lib.hid hnq
            clear ho hE0 hE1 hpf hhd hpv hnq hQ
            replace HK := Lib.hid (HK.out.below hb HK.out.lt)
            replace HB := Lib.hid (HB.out.trans (hb.mono HB.out.size))
            clear hb c0 c1 c2 c3 c4 c5
            obtain ⟨c0, c1, c2, c3, c4, c5⟩ := HK.out.six
            go_wp2_with fail
            have CALL := CheckRefusal_any w.heap.size A AS n c m d b P S w14 (HP.out.below HB.out (Nat.le_refl _)) (HS.out.below HB.out (Nat.le_refl _)) HB.out.size hl hl'
            refine CALL.mono ?_
            rintro e w15 ⟨rfl, hb⟩
            clear CALL
            replace HK := Lib.hid (HK.out.below hb HK.out.lt)
            replace HQ := Lib.hid ((HQ.out.below hb (Nat.le_refl _)).more hb.size)
            replace HB := Lib.hid (HB.out.trans (hb.mono HB.out.size))
            clear hb c0 c1 c2 c3 c4 c5
            obtain ⟨c0, c1, c2, c3, c4, c5⟩ := HK.out.six
            rw [HX.out]
            go_wp2_with fail
            have CALL := CheckCut_any w.heap.size A AR n c mr dr b P R w15 (HP.out.below HB.out (Nat.le_refl _)) (HR.out.below HB.out (Nat.le_refl _)) HB.out.size hl hl2
            refine CALL.mono ?_
            rintro e w16 ⟨rfl, hb⟩
            clear CALL
            replace HK := Lib.hid (HK.out.below hb HK.out.lt)
            replace HQ := Lib.hid ((HQ.out.below hb (Nat.le_refl _)).more hb.size)
            replace HB := Lib.hid (HB.out.trans (hb.mono HB.out.size))
            clear hb c0 c1 c2 c3 c4 c5
            obtain ⟨c0, c1, c2, c3, c4, c5⟩ := HK.out.six
            rw [HG.out]
            have HC0 : Hid (crfE b P l = 0) := Lib.hid (by rw [HCR.out l (by rw [HNQ.out]; exact hlen), if_pos HPV.out])
            have hnz : ((nq : Int) == 0) = false := by simp; omega
            have hnz2 : ¬ (nq : Int) > 16384 := by omega
            go_wp2_with fail
            have CALL := CheckRefusal_any w16.heap.size A Aq n c nq kq b P l w16 ((HP.out.below HB.out (Nat.le_refl _)).more HB.out.size) HQ.out (Nat.le_refl _) hl (by omega)
            refine CALL.mono ?_
            rintro e w17 ⟨rfl, hb⟩
            clear CALL
            replace HK := Lib.hid (HK.out.below hb HK.out.lt)
            replace HQ := Lib.hid ((HQ.out.below hb (Nat.le_refl _)).more hb.size)
            replace HB := Lib.hid (HB.out.trans (hb.mono HB.out.size))
            clear hb c0 c1 c2 c3 c4 c5
            obtain ⟨c0, c1, c2, c3, c4, c5⟩ := HK.out.six
            rw [HC0.out]
            obtain ⟨ad, hA, -, g1, -⟩ := HQ.out.hx (k := 0) (by omega)
            subst hA
            rw [show ad.add (0 * 2) = ad from by simp [Addr.add]] at g1
            have HHX : Hid (∀ z xs, l = z :: xs → hx l 0 = z) := Lib.hid (fun z xs h => by rw [h]; rfl)
            rcases HHD.out with ⟨r, i, xs, hl1, hr1, hbg⟩ | ⟨i, xs, hl1, hbg⟩
            · rw [HHX.out _ _ hl1] at g1
              have hr2 : (r != 1) = true := by simpa using hr1
              have HTU := Lib.hid (fun k => prv_turn HPV.out hbg k)
              obtain ⟨k, hk, hkn⟩ := tmodR q nq q0 (by omega)
              have HTK : Hid (crfE b P (l.drop k ++ l.take k) = 0) := Lib.hid (by rw [HCR.out _ (by rw [List.length_append, List.length_drop, List.length_take, HNQ.out]; omega), if_pos (HTU.out k)])
              have x5 : ¬ ((nq : Int) = 0) := by omega
              have x6 : IntKind.i64.wrap q = q := IntWalk.i64_in _ (by omega)
              have x7 : IntKind.i64.wrap (k : Int) = k := IntWalk.i64_in _ (by omega)
              have sf := fun W => steps_from (some ad) .i64 k nq kq (by omega) W
              have st := fun W => steps_to (some ad) k nq kq (by omega) W
              clear hl1 hr1 hbg
              go_upto_region 16 with fail
              clear g1 hk x6 x7 hnz hnz2 hr2
              go_cut [19] (fun s19 wx => ∃ (AM : Option Addr) (cM : Nat), s19 = .slice AM nq cM ∧ Hid (RS wx wx.heap.size AM nq (l.drop k ++ l.take k)) ∧ Hid (Below w17.heap.size w17 wx))
              case first =>
                have HDQ := Lib.hid (HQ.out.drop k (by omega) hqc)
                have HTQ := Lib.hid (HQ.out.take k (by omega))
                go_region_law (first | (refine step_append_any _ rfl (.tmp 113) (.tmp 116) 36 rfl w17.heap.size 52 i0 _ 2 16 Try.underlying36 HI0.out HZ0.out HZ1.out HZ2.out rfl (by omega) (.slice (some ⟨w17.heap.size, 0, none⟩) 0 0) 0 ([]) rfl (rwS_a w17).own w17.heap.size (rstS (some ad) kq k) (nq - k) (kq - k) (smpCells (l.drop k)) rfl (HDQ.out.below (rwS_a w17).bel (Nat.le_refl _)).2 (cells_one _) (by unfold maxLen; omega) (by omega) (rwS_a w17).bel.size ?_; intro v1 wA hown hgrow hblk; simp only [Nat.zero_add, List.nil_append] at hown; have hr1 := (rwS_a w17).grow hgrow hown; obtain ⟨A1, k1, rfl, -⟩ := own_reads hown; have HR1 := Lib.hid hr1; clear hown hgrow hblk hr1) | (refine step_append_any _ rfl (.tmp 117) (.tmp 120) 36 rfl w17.heap.size 52 i0 _ 2 16 Try.underlying36 HI0.out HZ0.out HZ1.out HZ2.out rfl (by omega) (.slice A1 (nq - k) k1) (nq - k) (smpCells (l.drop k)) rfl HR1.out.own w17.heap.size (some ad) k kq (smpCells (l.take k)) rfl (HTQ.out.below HR1.out.bel (Nat.le_refl _)).2 (cells_one _) (by unfold maxLen; omega) (by omega) HR1.out.bel.size ?_; intro v3 wC hown hgrow hblk; rw [smpCells_app, show nq - k + k = nq by omega] at hown; have hr3 := HR1.out.grow hgrow hown; have HBC := Lib.hid hr3.bel; obtain ⟨AM, cM, rfl, hM, -⟩ := own_rsU hr3.own (by rw [List.length_append, List.length_drop, List.length_take, HNQ.out]; omega); have HMM := Lib.hid hM; clear hown hgrow hblk hr3 hM))
                all_goals
                  go_wp2_with fail
                  go_meet
                  exact ⟨AM, cM, rfl, HMM, HBC⟩
              case rest =>
                obtain ⟨AM, cM, rfl, HMM, hb⟩ := hcut
                obtain ⟨w18, hw_⟩ : ∃ W, W = wc := ⟨_, rfl⟩
                subst hw_
                have hb := hb.out
                replace HK := Lib.hid (HK.out.below hb HK.out.lt)
                replace HQ := Lib.hid ((HQ.out.below hb (Nat.le_refl _)).more hb.size)
                replace HB := Lib.hid (HB.out.trans (hb.mono HB.out.size))
                clear hb c0 c1 c2 c3 c4 c5
                obtain ⟨c0, c1, c2, c3, c4, c5⟩ := HK.out.six
                clear sf st
                go_wp2_with fail
                have CALL := CheckRefusal_any w18.heap.size A AM n c nq cM b P (l.drop k ++ l.take k) w18 ((HP.out.below HB.out (Nat.le_refl _)).more HB.out.size) HMM.out (Nat.le_refl _) hl (by omega)
                refine CALL.mono ?_
                rintro e w19 ⟨rfl, hb⟩
                clear CALL
                replace HK := Lib.hid (HK.out.below hb HK.out.lt)
                replace HQ := Lib.hid ((HQ.out.below hb (Nat.le_refl _)).more hb.size)
                replace HB := Lib.hid (HB.out.trans (hb.mono HB.out.size))
                clear hb c0 c1 c2 c3 c4 c5
                obtain ⟨c0, c1, c2, c3, c4, c5⟩ := HK.out.six
                rw [HTK.out]
                go_wp2_with fail
                refine (works5_any _).mono ?_
                rintro e w20 ⟨rfl, hb⟩
                replace HB := Lib.hid (HB.out.trans (hb.mono HB.out.size))
                clear hb
                go_wp2
                go_ret
                exact ⟨rfl, HB.out⟩
            · rw [HHX.out _ _ hl1] at g1
              by_cases h2 : nq < 2
              · have h3 : (nq : Int) < 2 := by omega
                clear hl1
                have K4 := Lib.hid (fun z : Lat w17 => Calls.lat (works5_any z.w))
                have p0 := Lat.cell c0
                have p1 := Lat.cell c1
                have p2 := Lat.cell c2
                have p3 := Lat.cell c3
                have p4 := Lat.cell c4
                have p5 := Lat.cell c5
                go_wp2_with fail
                try dsimp only [List.append]
                clear c0 c1 c2 c3 c4 c5 g1
                have h4 : (nq : Int) < 2 := by omega
                refine wp_region_lat (by kernel_rfl) (by kernel_rfl) ?_
                repeat (go_big_quiet_step ((first | (with_reducible exact K4.out _))))
                refine wpQuiet_nil ?_
                intro w7 hw'
                have hb7 := lat_out hw'
                replace HB := Lib.hid (HB.out.trans (hb7.mono HB.out.size))
                clear hb7 hw'
                go_wp2
                go_ret
                exact ⟨rfl, HB.out⟩
              · have h3 : ¬ (nq : Int) < 2 := by omega
                have HT1 : Hid (crfE b P (l.drop 1) = 16) := Lib.hid (by rw [HCR.out _ (by rw [List.length_drop, HNQ.out]; omega), if_neg (by rw [prv_tail HPV.out hbg (by rw [HNQ.out]; omega)]; simp)])
                have ht2 : crfE b P (l.take (nq - 1)) = 16 := by rw [HCR.out _ (by rw [List.length_take, HNQ.out]; omega), if_neg (by rw [← HNQ.out, prv_init HPV.out hbg (by rw [HNQ.out]; omega)]; simp)]
                obtain ⟨n1, hn1⟩ : ∃ x, nq - 1 = x := ⟨_, rfl⟩
                have hn1z : (nq : Int) - 1 = (n1 : Int) := by omega
                have x8 : IntKind.i64.wrap ((nq : Int) - 1) = (n1 : Int) := by rw [hn1z]; exact IntWalk.i64_in _ (by omega)
                rw [hn1] at ht2
                have HT2 := Lib.hid ht2
                have s1 : ∀ W, (Instr.slice 36 (.slice (some ad) nq kq) (some (.int .i64 1)) none none).run Try.prog W = .ok (.slice (rstS (some ad) kq 1) n1 (kq - 1)) W := fun W => by rw [← hn1]; exact steps_from (some ad) .i64 1 nq kq (by omega) W
                have s2 := fun W => steps_to (some ad) n1 nq kq (by omega) W
                have HD1 := HQ.out.drop 1 (by omega) hqc
                rw [hn1] at HD1
                replace HD1 := Lib.hid HD1
                clear hl1 hbg ht2 hn1z
                have K4 := Lib.hid (fun z : Lat w17 => Calls.lat (works5_any z.w))
                have K1 := Lib.hid (fun z : Lat w17 => Calls.lat (CheckRefusal_any z.w.heap.size A (rstS (some ad) kq 1) n c n1 (kq - 1) b P (l.drop 1) z.w ((HP.out.below (HB.out.trans (z.below.mono HB.out.size)) (Nat.le_refl _)).more (HB.out.trans (z.below.mono HB.out.size)).size) ((HD1.out.below z.below (Nat.le_refl _)).more z.below.size) (Nat.le_refl _) hl (by omega)))
                have K2 := Lib.hid (fun z : Lat w17 => Calls.lat (CheckRefusal_any z.w.heap.size A (some ad) n c n1 kq b P (l.take n1) z.w ((HP.out.below (HB.out.trans (z.below.mono HB.out.size)) (Nat.le_refl _)).more (HB.out.trans (z.below.mono HB.out.size)).size) (((HQ.out.take n1 (by omega)).below z.below (Nat.le_refl _)).more z.below.size) (Nat.le_refl _) hl (by omega)))
                rw [HT1.out] at K1
                rw [HT2.out] at K2
                have p0 := Lat.cell c0
                have p1 := Lat.cell c1
                have p2 := Lat.cell c2
                have p3 := Lat.cell c3
                have p4 := Lat.cell c4
                have p5 := Lat.cell c5
                go_wp2_with fail
                try dsimp only [List.append]
                clear c0 c1 c2 c3 c4 c5 g1
                have h4 : ¬ (nq : Int) < 2 := by omega
                have h5 : ¬ nq < 2 := by omega
                refine wp_region_lat (by kernel_rfl) (by kernel_rfl) ?_
                repeat (go_big_quiet_step ((first | (with_reducible exact K4.out _) | (with_reducible exact K1.out _) | (with_reducible exact K2.out _))))
                refine wpQuiet_nil ?_
                intro w7 hw'
                have hb7 := lat_out hw'
                replace HB := Lib.hid (HB.out.trans (hb7.mono HB.out.size))
                clear hb7 hw'
                go_wp2
                go_ret
                exact ⟨rfl, HB.out⟩
          | false =>
            have HX : Hid (crfE b P S = 16) := Lib.hid (by rw [HCS.out, if_neg (by rw [hp]; simp)])
            clear hp HCS
            go_wp2_with fail
            have CALL := valid5_any w.heap.size A n c b P w0 (HP.out.below HB.out (Nat.le_refl _)) HB.out.size hl
            refine CALL.mono ?_
            rintro e w21 ⟨rfl, hb⟩
            clear CALL
            replace HK := Lib.hid (HK.out.below hb HK.out.lt)
            replace HB := Lib.hid (HB.out.trans (hb.mono HB.out.size))
            clear hb c0 c1 c2 c3 c4 c5
            obtain ⟨c0, c1, c2, c3, c4, c5⟩ := HK.out.six
            rw [HV.out]
            go_wp2_with fail
            have CALL := Outermost_any w.heap.size A n c b P w21 (HP.out.below HB.out (Nat.le_refl _)) HB.out.size hl
            refine CALL.mono ?_
            rintro e w22 ⟨v, E, rfl, hE, -, hb⟩
            clear CALL
            rw [HQE.out.1] at hE
            subst hE
            replace HK := Lib.hid (HK.out.below hb HK.out.lt)
            replace HB := Lib.hid (HB.out.trans (hb.mono HB.out.size))
            clear hb c0 c1 c2 c3 c4 c5
            obtain ⟨c0, c1, c2, c3, c4, c5⟩ := HK.out.six
            go_wp2_with fail
            have CALL := Refuse_any w.heap.size A n c b P w22 (HP.out.below HB.out (Nat.le_refl _)) HB.out.size hl
            refine CALL.mono ?_
            rintro e w23 ⟨v2, E, l, rfl, hE, hE0, hE1, ho, hb⟩
            clear CALL
            rw [HQE.out.2] at hE
            subst hE
            have hpf := hE0 rfl
            rw [HN.out] at hpf
            obtain ⟨hlen, hhd⟩ := prf_head HVE.out.2.1 HVE.out.2.2.2 hpf
            have hpv := hpf.prv HVE.out.2.1 (Nat.le_refl _)
            have hne := hpf.ne
            obtain ⟨nq, hnq⟩ : ∃ x, l.length = x := ⟨_, rfl⟩
            rw [hnq] at ho hlen hne
            obtain ⟨Aq, kq, rfl, hQ, hqc⟩ := own_rsU ho hnq.symm
            have HQ := Lib.hid hQ
            have HHD := Lib.hid hhd
            have HPV := Lib.hid hpv
            have HNQ := Lib.hid hnq
            clear ho hE0 hE1 hpf hhd hpv hnq hQ
            replace HK := Lib.hid (HK.out.below hb HK.out.lt)
            replace HB := Lib.hid (HB.out.trans (hb.mono HB.out.size))
            clear hb c0 c1 c2 c3 c4 c5
            obtain ⟨c0, c1, c2, c3, c4, c5⟩ := HK.out.six
            go_wp2_with fail
            have CALL := CheckRefusal_any w.heap.size A AS n c m d b P S w23 (HP.out.below HB.out (Nat.le_refl _)) (HS.out.below HB.out (Nat.le_refl _)) HB.out.size hl hl'
            refine CALL.mono ?_
            rintro e w24 ⟨rfl, hb⟩
            clear CALL
            replace HK := Lib.hid (HK.out.below hb HK.out.lt)
            replace HQ := Lib.hid ((HQ.out.below hb (Nat.le_refl _)).more hb.size)
            replace HB := Lib.hid (HB.out.trans (hb.mono HB.out.size))
            clear hb c0 c1 c2 c3 c4 c5
            obtain ⟨c0, c1, c2, c3, c4, c5⟩ := HK.out.six
            rw [HX.out]
            go_wp2_with fail
            have CALL := CheckCut_any w.heap.size A AR n c mr dr b P R w24 (HP.out.below HB.out (Nat.le_refl _)) (HR.out.below HB.out (Nat.le_refl _)) HB.out.size hl hl2
            refine CALL.mono ?_
            rintro e w25 ⟨rfl, hb⟩
            clear CALL
            replace HK := Lib.hid (HK.out.below hb HK.out.lt)
            replace HQ := Lib.hid ((HQ.out.below hb (Nat.le_refl _)).more hb.size)
            replace HB := Lib.hid (HB.out.trans (hb.mono HB.out.size))
            clear hb c0 c1 c2 c3 c4 c5
            obtain ⟨c0, c1, c2, c3, c4, c5⟩ := HK.out.six
            rw [HG.out]
            have HC0 : Hid (crfE b P l = 0) := Lib.hid (by rw [HCR.out l (by rw [HNQ.out]; exact hlen), if_pos HPV.out])
            have hnz : ((nq : Int) == 0) = false := by simp; omega
            have hnz2 : ¬ (nq : Int) > 16384 := by omega
            go_wp2_with fail
            have CALL := CheckRefusal_any w25.heap.size A Aq n c nq kq b P l w25 ((HP.out.below HB.out (Nat.le_refl _)).more HB.out.size) HQ.out (Nat.le_refl _) hl (by omega)
            refine CALL.mono ?_
            rintro e w26 ⟨rfl, hb⟩
            clear CALL
            replace HK := Lib.hid (HK.out.below hb HK.out.lt)
            replace HQ := Lib.hid ((HQ.out.below hb (Nat.le_refl _)).more hb.size)
            replace HB := Lib.hid (HB.out.trans (hb.mono HB.out.size))
            clear hb c0 c1 c2 c3 c4 c5
            obtain ⟨c0, c1, c2, c3, c4, c5⟩ := HK.out.six
            rw [HC0.out]
            obtain ⟨ad, hA, -, g1, -⟩ := HQ.out.hx (k := 0) (by omega)
            subst hA
            rw [show ad.add (0 * 2) = ad from by simp [Addr.add]] at g1
            have HHX : Hid (∀ z xs, l = z :: xs → hx l 0 = z) := Lib.hid (fun z xs h => by rw [h]; rfl)
            rcases HHD.out with ⟨r, i, xs, hl1, hr1, hbg⟩ | ⟨i, xs, hl1, hbg⟩
            · rw [HHX.out _ _ hl1] at g1
              have hr2 : (r != 1) = true := by simpa using hr1
              have HTU := Lib.hid (fun k => prv_turn HPV.out hbg k)
              obtain ⟨k, hk, hkn⟩ := tmodR q nq q0 (by omega)
              have HTK : Hid (crfE b P (l.drop k ++ l.take k) = 0) := Lib.hid (by rw [HCR.out _ (by rw [List.length_append, List.length_drop, List.length_take, HNQ.out]; omega), if_pos (HTU.out k)])
              have x5 : ¬ ((nq : Int) = 0) := by omega
              have x6 : IntKind.i64.wrap q = q := IntWalk.i64_in _ (by omega)
              have x7 : IntKind.i64.wrap (k : Int) = k := IntWalk.i64_in _ (by omega)
              have sf := fun W => steps_from (some ad) .i64 k nq kq (by omega) W
              have st := fun W => steps_to (some ad) k nq kq (by omega) W
              clear hl1 hr1 hbg
              go_upto_region 16 with fail
              clear g1 hk x6 x7 hnz hnz2 hr2
              go_cut [19] (fun s19 wx => ∃ (AM : Option Addr) (cM : Nat), s19 = .slice AM nq cM ∧ Hid (RS wx wx.heap.size AM nq (l.drop k ++ l.take k)) ∧ Hid (Below w26.heap.size w26 wx))
              case first =>
                have HDQ := Lib.hid (HQ.out.drop k (by omega) hqc)
                have HTQ := Lib.hid (HQ.out.take k (by omega))
                go_region_law (first | (refine step_append_any _ rfl (.tmp 113) (.tmp 116) 36 rfl w26.heap.size 52 i0 _ 2 16 Try.underlying36 HI0.out HZ0.out HZ1.out HZ2.out rfl (by omega) (.slice (some ⟨w26.heap.size, 0, none⟩) 0 0) 0 ([]) rfl (rwS_a w26).own w26.heap.size (rstS (some ad) kq k) (nq - k) (kq - k) (smpCells (l.drop k)) rfl (HDQ.out.below (rwS_a w26).bel (Nat.le_refl _)).2 (cells_one _) (by unfold maxLen; omega) (by omega) (rwS_a w26).bel.size ?_; intro v1 wA hown hgrow hblk; simp only [Nat.zero_add, List.nil_append] at hown; have hr1 := (rwS_a w26).grow hgrow hown; obtain ⟨A1, k1, rfl, -⟩ := own_reads hown; have HR1 := Lib.hid hr1; clear hown hgrow hblk hr1) | (refine step_append_any _ rfl (.tmp 117) (.tmp 120) 36 rfl w26.heap.size 52 i0 _ 2 16 Try.underlying36 HI0.out HZ0.out HZ1.out HZ2.out rfl (by omega) (.slice A1 (nq - k) k1) (nq - k) (smpCells (l.drop k)) rfl HR1.out.own w26.heap.size (some ad) k kq (smpCells (l.take k)) rfl (HTQ.out.below HR1.out.bel (Nat.le_refl _)).2 (cells_one _) (by unfold maxLen; omega) (by omega) HR1.out.bel.size ?_; intro v3 wC hown hgrow hblk; rw [smpCells_app, show nq - k + k = nq by omega] at hown; have hr3 := HR1.out.grow hgrow hown; have HBC := Lib.hid hr3.bel; obtain ⟨AM, cM, rfl, hM, -⟩ := own_rsU hr3.own (by rw [List.length_append, List.length_drop, List.length_take, HNQ.out]; omega); have HMM := Lib.hid hM; clear hown hgrow hblk hr3 hM))
                all_goals
                  go_wp2_with fail
                  go_meet
                  exact ⟨AM, cM, rfl, HMM, HBC⟩
              case rest =>
                obtain ⟨AM, cM, rfl, HMM, hb⟩ := hcut
                obtain ⟨w27, hw_⟩ : ∃ W, W = wc := ⟨_, rfl⟩
                subst hw_
                have hb := hb.out
                replace HK := Lib.hid (HK.out.below hb HK.out.lt)
                replace HQ := Lib.hid ((HQ.out.below hb (Nat.le_refl _)).more hb.size)
                replace HB := Lib.hid (HB.out.trans (hb.mono HB.out.size))
                clear hb c0 c1 c2 c3 c4 c5
                obtain ⟨c0, c1, c2, c3, c4, c5⟩ := HK.out.six
                clear sf st
                go_wp2_with fail
                have CALL := CheckRefusal_any w27.heap.size A AM n c nq cM b P (l.drop k ++ l.take k) w27 ((HP.out.below HB.out (Nat.le_refl _)).more HB.out.size) HMM.out (Nat.le_refl _) hl (by omega)
                refine CALL.mono ?_
                rintro e w28 ⟨rfl, hb⟩
                clear CALL
                replace HK := Lib.hid (HK.out.below hb HK.out.lt)
                replace HQ := Lib.hid ((HQ.out.below hb (Nat.le_refl _)).more hb.size)
                replace HB := Lib.hid (HB.out.trans (hb.mono HB.out.size))
                clear hb c0 c1 c2 c3 c4 c5
                obtain ⟨c0, c1, c2, c3, c4, c5⟩ := HK.out.six
                rw [HTK.out]
                go_wp2_with fail
                refine (works5_any _).mono ?_
                rintro e w29 ⟨rfl, hb⟩
                replace HB := Lib.hid (HB.out.trans (hb.mono HB.out.size))
                clear hb
                go_wp2
                go_ret
                exact ⟨rfl, HB.out⟩
            · rw [HHX.out _ _ hl1] at g1
              by_cases h2 : nq < 2
              · have h3 : (nq : Int) < 2 := by omega
                clear hl1
                have K4 := Lib.hid (fun z : Lat w26 => Calls.lat (works5_any z.w))
                have p0 := Lat.cell c0
                have p1 := Lat.cell c1
                have p2 := Lat.cell c2
                have p3 := Lat.cell c3
                have p4 := Lat.cell c4
                have p5 := Lat.cell c5
                go_wp2_with fail
                try dsimp only [List.append]
                clear c0 c1 c2 c3 c4 c5 g1
                have h4 : (nq : Int) < 2 := by omega
                refine wp_region_lat (by kernel_rfl) (by kernel_rfl) ?_
                repeat (go_big_quiet_step ((first | (with_reducible exact K4.out _))))
                refine wpQuiet_nil ?_
                intro w7 hw'
                have hb7 := lat_out hw'
                replace HB := Lib.hid (HB.out.trans (hb7.mono HB.out.size))
                clear hb7 hw'
                go_wp2
                go_ret
                exact ⟨rfl, HB.out⟩
              · have h3 : ¬ (nq : Int) < 2 := by omega
                have HT1 : Hid (crfE b P (l.drop 1) = 16) := Lib.hid (by rw [HCR.out _ (by rw [List.length_drop, HNQ.out]; omega), if_neg (by rw [prv_tail HPV.out hbg (by rw [HNQ.out]; omega)]; simp)])
                have ht2 : crfE b P (l.take (nq - 1)) = 16 := by rw [HCR.out _ (by rw [List.length_take, HNQ.out]; omega), if_neg (by rw [← HNQ.out, prv_init HPV.out hbg (by rw [HNQ.out]; omega)]; simp)]
                obtain ⟨n1, hn1⟩ : ∃ x, nq - 1 = x := ⟨_, rfl⟩
                have hn1z : (nq : Int) - 1 = (n1 : Int) := by omega
                have x8 : IntKind.i64.wrap ((nq : Int) - 1) = (n1 : Int) := by rw [hn1z]; exact IntWalk.i64_in _ (by omega)
                rw [hn1] at ht2
                have HT2 := Lib.hid ht2
                have s1 : ∀ W, (Instr.slice 36 (.slice (some ad) nq kq) (some (.int .i64 1)) none none).run Try.prog W = .ok (.slice (rstS (some ad) kq 1) n1 (kq - 1)) W := fun W => by rw [← hn1]; exact steps_from (some ad) .i64 1 nq kq (by omega) W
                have s2 := fun W => steps_to (some ad) n1 nq kq (by omega) W
                have HD1 := HQ.out.drop 1 (by omega) hqc
                rw [hn1] at HD1
                replace HD1 := Lib.hid HD1
                clear hl1 hbg ht2 hn1z
                have K4 := Lib.hid (fun z : Lat w26 => Calls.lat (works5_any z.w))
                have K1 := Lib.hid (fun z : Lat w26 => Calls.lat (CheckRefusal_any z.w.heap.size A (rstS (some ad) kq 1) n c n1 (kq - 1) b P (l.drop 1) z.w ((HP.out.below (HB.out.trans (z.below.mono HB.out.size)) (Nat.le_refl _)).more (HB.out.trans (z.below.mono HB.out.size)).size) ((HD1.out.below z.below (Nat.le_refl _)).more z.below.size) (Nat.le_refl _) hl (by omega)))
                have K2 := Lib.hid (fun z : Lat w26 => Calls.lat (CheckRefusal_any z.w.heap.size A (some ad) n c n1 kq b P (l.take n1) z.w ((HP.out.below (HB.out.trans (z.below.mono HB.out.size)) (Nat.le_refl _)).more (HB.out.trans (z.below.mono HB.out.size)).size) (((HQ.out.take n1 (by omega)).below z.below (Nat.le_refl _)).more z.below.size) (Nat.le_refl _) hl (by omega)))
                rw [HT1.out] at K1
                rw [HT2.out] at K2
                have p0 := Lat.cell c0
                have p1 := Lat.cell c1
                have p2 := Lat.cell c2
                have p3 := Lat.cell c3
                have p4 := Lat.cell c4
                have p5 := Lat.cell c5
                go_wp2_with fail
                try dsimp only [List.append]
                clear c0 c1 c2 c3 c4 c5 g1
                have h4 : ¬ (nq : Int) < 2 := by omega
                have h5 : ¬ nq < 2 := by omega
                refine wp_region_lat (by kernel_rfl) (by kernel_rfl) ?_
                repeat (go_big_quiet_step ((first | (with_reducible exact K4.out _) | (with_reducible exact K1.out _) | (with_reducible exact K2.out _))))
                refine wpQuiet_nil ?_
                intro w7 hw'
                have hb7 := lat_out hw'
                replace HB := Lib.hid (HB.out.trans (hb7.mono HB.out.size))
                clear hb7 hw'
                go_wp2
                go_ret
                exact ⟨rfl, HB.out⟩
end Go.Proofs.Ytgdkcbnpgpjnbaa
