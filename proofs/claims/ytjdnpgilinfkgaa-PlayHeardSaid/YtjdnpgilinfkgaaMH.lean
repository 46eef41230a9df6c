/-
  The statements' sharper: a tip to which another one is blunter.
-/
import Derived.Test.YtjdnpgilinfkgaaMG
namespace Go.Proofs.Ytjdnpgilinfkgaa
open Go.RowKit

/-- One element of the sharper tip: k-th, the elements before it being o. -/
def shE (s by_ o : List Int) (k : Nat) : Int := if k = 0 then atI s 0 else max (if k < by_.length then min 4194304 (atI s k + atI by_ k) else atI s k) (atI o (k - 1))
def shT (s by_ : List Int) : Nat → List Int
  | 0 => []
  | k + 1 => shT s by_ k ++ [shE s by_ (shT s by_ k) k]
def shN (s : List Int) (less : Int) : Nat := (max 1 ((s.length : Int) - less % 8)).toNat
def shL (s by_ : List Int) (less : Int) : List Int := shT s by_ (shN s less)
theorem shT_len (s by_ : List Int) : ∀ k, (shT s by_ k).length = k
  | 0 => rfl
  | k + 1 => by rw [shT, List.length_append, shT_len s by_ k]; rfl
theorem shT_at (s by_ : List Int) : ∀ (m k : Nat), k < m → atI (shT s by_ m) k = shE s by_ (shT s by_ k) k
  | m + 1, k, h => by
    rcases Nat.lt_or_ge k m with h1 | h1
    · rw [← shT_at s by_ m k h1]
      show atI (shT s by_ m ++ [shE s by_ (shT s by_ m) m]) k = _
      unfold atI
      rw [List.getElem?_append_left (by rw [shT_len]; exact h1)]
    · obtain rfl : k = m := by omega
      show atI (shT s by_ k ++ [shE s by_ (shT s by_ k) k]) k = _
      unfold atI
      rw [List.getElem?_append_right (by rw [shT_len]; exact Nat.le_refl _), shT_len]
      simp
theorem shT_prev (s by_ : List Int) (m k : Nat) (h : k + 1 < m) : atI (shT s by_ m) (k + 1) = max (if k + 1 < by_.length then min 4194304 (atI s (k + 1) + atI by_ (k + 1)) else atI s (k + 1)) (atI (shT s by_ m) k) := by
  rw [shT_at s by_ m (k + 1) h]
  unfold shE
  rw [if_neg (by omega), Nat.add_sub_cancel, shT_at s by_ (k + 1) k (by omega), shT_at s by_ m k (by omega)]
theorem shN_bd {s : List Int} (less : Int) (h : 1 ≤ s.length) : 1 ≤ shN s less ∧ shN s less ≤ s.length := by
  unfold shN
  have := Int.emod_nonneg less (by omega : (8 : Int) ≠ 0)
  omega
theorem shL_shp {s by_ : List Int} {less : Int} (hs : Shp s) (hb : ∀ k, 0 ≤ atI by_ k ∧ atI by_ k ≤ 255) : Shp (shL s by_ less) ∧ (shL s by_ less).length ≤ s.length ∧ ∀ k, k < (shL s by_ less).length → atI s k ≤ atI (shL s by_ less) k := by
  obtain ⟨n1, n2⟩ := shN_bd less hs.pos
  unfold shL
  obtain ⟨m, hm⟩ : ∃ m, shN s less = m := ⟨_, rfl⟩
  rw [hm] at n1 n2 ⊢
  have z : atI (shT s by_ m) 0 = 0 := by rw [shT_at s by_ m 0 (by omega)]; unfold shE; rw [if_pos rfl]; exact hs.zero
  have top : ∀ k, k < m → atI s k ≤ atI (shT s by_ m) k ∧ atI (shT s by_ m) k ≤ 4194304 := by
    intro k
    induction k with
    | zero => intro _; rw [z, hs.zero]; omega
    | succ k ih =>
      intro h
      have h1 := ih (by omega)
      have h2 := hs.top (k + 1)
      have h3 := hb (k + 1)
      rw [shT_prev s by_ m k h]
      split <;> omega
  refine ⟨⟨by rw [shT_len]; exact n1, by rw [shT_len]; have := hs.many; omega, z, ?_, ?_⟩, by rw [shT_len]; exact n2, fun k hk => (top k (by rw [shT_len] at hk; exact hk)).1⟩
  · intro i j hij hj
    rw [shT_len] at hj
    induction j with
    | zero => rw [show i = 0 by omega]; exact Int.le_refl _
    | succ j ih =>
      rcases Nat.eq_or_lt_of_le hij with rfl | h2
      · exact Int.le_refl _
      · have h3 := ih (by omega) (by omega)
        have h4 := shT_prev s by_ m j hj
        omega
  · intro k
    rcases Nat.lt_or_ge k m with hk | hk
    · exact (top k hk).2
    · unfold atI; rw [List.getElem?_eq_none (by rw [shT_len]; exact hk)]; simp
/-- What a call leaves that returns a tip. -/
def TipPost (w : World) (s : List Int) (e : Ending) (w' : World) : Prop :=
  ∃ A n k, e = .returned (.agg #[.slice A n k]) ∧ LI w' w'.heap.size A n s ∧ n ≤ k ∧ Below w.heap.size w w'

set_option maxRecDepth 100000 in
set_option maxHeartbeats 4000000 in
theorem sharper_any (B : Nat) (A Ab : Option Addr) (n k nb kb : Nat) (s bs : List Int) (less : Int) (w : World) (h0 : LI w B A n s) (hb0 : LU w B Ab nb bs) (hB : B ≤ w.heap.size) (hs : Shp s) (hl0 : 0 ≤ less) (hl1 : less ≤ 255) (hnb : nb ≤ 9223372036854775807) :
    Calls Try.prog 37 #[.agg #[.slice A n k], .slice Ab nb kb, .int .u8 less] w (TipPost w (shL s bs less)) := by
  have hn64 : n ≤ 64 := by have := h0.1; have := hs.many; omega
  obtain ⟨N1, N2⟩ := shN_bd less hs.pos
  have HN := Lib.hid h0.1
  have HNB := Lib.hid hb0.1.1
  have H := Lib.hid (h0.more hB)
  have HU := Lib.hid (hb0.more hB)
  have HS := Lib.hid hs
  have hr0 := Int.emod_nonneg less (by omega : (8 : Int) ≠ 0)
  have hr1 := Int.emod_lt_of_pos less (by omega : (0 : Int) < 8)
  have hm : ∃ m, shN s less = m := ⟨_, rfl⟩
  obtain ⟨m, hm⟩ := hm
  have hmx : (if 1 < (n : Int) - less % 8 then (n : Int) - less % 8 else 1) = (m : Int) := by
    rw [← hm]; unfold shN; have := h0.1; split <;> omega
  have hml : shL s bs less = shT s bs m := by unfold shL; rw [hm]
  rw [hm] at N1 N2
  rw [hml]
  have hmn : m ≤ n := by have := h0.1; omega
  clear h0 hb0 hB hs hm hml N2
  obtain ⟨i0, hi0, hz0, hz1, hz2⟩ := info_parts info_i64
  have HI0 := Lib.hid hi0
  have HZ0 := Lib.hid hz0
  have HZ1 := Lib.hid hz1
  have HZ2 := Lib.hid hz2
  clear hi0 hz0 hz1 hz2
  obtain ⟨W, hW⟩ : ∃ W, (w.alloc (.cells #[.slice A n k] 24)).alloc (.cells #[.slice none 0 0] 24) = W := ⟨_, rfl⟩
  have hbw : Below w.heap.size w W := by rw [← hW]; exact ((Below.refl _ _).alloc (Nat.le_refl _) _).alloc (by simp) _
  have k0 : Blk W w.heap.size 24 #[.slice A n k] := by rw [← hW]; exact (Blk.new _ _ _).alloc _
  have k1 : Blk W (w.heap.size + 1) 24 #[.slice none 0 0] := by rw [← hW]; exact blk_al (by simp)
  have HB := Lib.hid hbw
  have K0 := Lib.hid k0
  have K1 := Lib.hid k1
  have t0 := k0.one.1
  have hsW : w.heap.size + 2 ≤ W.heap.size := k1.lt
  have HO : Hid (W.ownsRow (w.heap.size + 2) 2 1 (.slice none 0 0) 0 (nums (shT s bs 0))) := Lib.hid (World.ownsRow_nil _ _ _ _)
  have e1 : IntKind.i64.wrap less = less := IntWalk.i64_in _ (by omega)
  have e2 : less.tmod 8 = less % 8 := Int.tmod_eq_emod_of_nonneg hl0
  have e3 : IntKind.i64.wrap (less % 8) = less % 8 := IntWalk.i64_in _ (by omega)
  have e4 : IntKind.i64.wrap ((n : Int) - less % 8) = (n : Int) - less % 8 := IntWalk.i64_in _ (by omega)
  clear hbw k0 k1
  go_enter Try.func37, Try.ntmps37
  go_wp2_with fail
  go_loopw [8, 9] (fun v z wr => ∃ (j : Nat) (sv : Value), j ≤ m ∧ z = .int .i64 j ∧ sv = v ∧ Hid (wr.ownsRow (w.heap.size + 2) 2 1 sv j (nums (shT s bs j))) ∧ Hid (Below w.heap.size w wr) ∧ Hid (Blk wr w.heap.size 24 #[.slice A n k]) ∧ Hid (Blk wr (w.heap.size + 1) 24 #[.slice none 0 0]) ∧ w.heap.size + 2 ≤ wr.heap.size) (fun v z wr => m - (intOf z).toNat)
  case atStart => exact ⟨0, _, Nat.zero_le _, rfl, rfl, HO, HB, K0, K1, hsW⟩
  case round =>
    clear HO HB K0 K1 t0 hW hmx e1 e2 e3 e4 hsW
    obtain ⟨j, sv, hj, rfl, rfl, HO, HB, K0, K1, hsz⟩ := hrel
    by_cases hlt : j < m
    · have hjx : j < s.length := by have := HN.out; omega
      obtain ⟨ad, hA, _, y0⟩ := (H.out.below HB.out (Nat.le_refl _)).at_ hjx
      obtain rfl := hA
      rw [← atI_eq hjx] at y0
      have bx : 0 ≤ atI s j ∧ atI s j ≤ 4194304 := ⟨HS.out.nn j, HS.out.top j⟩
      have HQ : ∃ q, shE s bs (shT s bs j) j = q := ⟨_, rfl⟩
      obtain ⟨q, HQ⟩ := HQ
      have hq := HQ
      have HQ := Lib.hid HQ
      have t0 := K0.out.one.1
      have q1 : (j : Int) < (n : Int) := by omega
      unfold shE at hq
      obtain ⟨x, hx⟩ : ∃ x, atI s j = x := ⟨_, rfl⟩
      rw [hx] at y0 bx hq
      have HX := Lib.hid hx
      clear hx
      by_cases c0 : j = 0
      · rw [if_pos c0, ← c0, HX.out] at hq
        rw [hq] at y0
        have c1 : ¬ (0 : Int) < (j : Int) := by omega
        clear hq bx c0
        go_wp2_with (at_builtin; refine wpList_append_own _ rfl (.tmp 54) (.tmp 56) _ rfl (w.heap.size + 2) 2 i0 _ 1 8 Try.underlying22 HI0.out HZ0.out HZ1.out HZ2.out rfl (by omega) _ j (nums (shT s bs j)) rfl (HO.out.alloc _) ⟨wr.heap.size, 0, none⟩ 1 1 [.int .i64 q] rfl rfl (nine_new _ _ _) ?c1 ?c2 ?c3 ?c4 ?_)
        case c1 => first | rfl | (intro x hx; simp at hx; subst hx; rfl)
        case c2 => simp only [maxLen]; omega
        case c3 => omega
        case c4 => first | omega | (simp; omega)
        intro v' w4 hown' hgrow _
        have hb1 : Below wr.heap.size wr (wr.alloc (.cells #[.int .i64 q] 2)) := (Below.refl _ _).alloc (Nat.le_refl _) _
        have HON : Hid (w4.ownsRow (w.heap.size + 2) 2 1 v' (j + 1) (nums (shT s bs (j + 1)))) := Lib.hid (by
          show w4.ownsRow _ _ _ _ _ (nums (shT s bs j ++ [shE s bs (shT s bs j) j]))
          rw [HQ.out]; simpa [nums] using hown')
        have hne := fun g hg => (HO.out.lt g hg).1
        have HBN := Lib.hid ((HB.out.alloc HB.out.size (.cells #[.int .i64 q] 2)).grown hgrow (by simp; omega) (fun g hg => by have := hne g hg; omega))
        have HK0 := Lib.hid ((K0.out.alloc _).grown hgrow (fun e => by have := hne _ e.symm; omega))
        have HK1 := Lib.hid ((K1.out.alloc _).grown hgrow (fun e => by have := hne _ e.symm; omega))
        have hs4 : w.heap.size + 2 ≤ w4.heap.size := by have := hgrow.size; simp at this; omega
        clear hown' hgrow hb1 hne
        go_wp2
        go_roundw
        case rel => exact ⟨j + 1, v', by omega, by go_num, rfl, HON, HBN, HK0, HK1, hs4⟩
        case measure => simp [intOf]; omega
      · rw [if_neg c0] at hq
        have c1 : (0 : Int) < (j : Int) := by omega
        obtain ⟨Ao, co, hsv, hL, -⟩ := own_readsU HO.out
        subst hsv
        obtain ⟨jp, hjp⟩ : ∃ jp, j - 1 = jp := ⟨_, rfl⟩
        have hjl : jp < (shT s bs j).length := by rw [shT_len]; omega
        obtain ⟨ao, hAo, _, y1⟩ := hL.at_ hjl
        obtain rfl := hAo
        rw [← atI_eq hjl] at y1
        have hpt := (shT_at s bs j jp (by omega))
        rw [hjp] at hq
        obtain ⟨u, hu⟩ : ∃ u, atI (shT s bs j) jp = u := ⟨_, rfl⟩
        rw [hu] at y1 hq
        have w1 : IntKind.i64.wrap ((j : Int) - 1) = (jp : Int) := by rw [show (j : Int) - 1 = jp by omega]; exact IntWalk.i64_in _ (by omega)
        have q2 : (jp : Int) < (j : Int) := by omega
        clear hpt hu hL
        by_cases c2 : j < nb
        · obtain ⟨ab, hAb, _, u1⟩ := (HU.out.below HB.out (Nat.le_refl _)).at_ (k := j) (by have := HNB.out; omega)
          obtain rfl := hAb
          have bb := HU.out.bd j
          rw [if_pos (by have := HNB.out; omega)] at hq
          obtain ⟨v, hv⟩ : ∃ v, atI bs j = v := ⟨_, rfl⟩
          rw [hv] at u1 bb hq
          have w2 := wrap_u8_i64 bb
          have w3 : IntKind.i64.wrap (x + v) = x + v := IntWalk.i64_in _ (by omega)
          obtain ⟨x2, hx2⟩ : ∃ x2, min 4194304 (x + v) = x2 := ⟨_, rfl⟩
          rw [hx2] at hq
          have m1 : (if x + v < 4194304 then x + v else 4194304) = x2 := by rw [← hx2]; split <;> omega
          have m2 : (if x2 < u then u else x2) = q := by rw [← hq]; split <;> omega
          have q3 : (j : Int) < (nb : Int) := by omega
          clear hq hx2 hv c0 c2 bb hjl hjp
          go_wp2_with (at_builtin; refine wpList_append_own _ rfl (.tmp 54) (.tmp 56) _ rfl (w.heap.size + 2) 2 i0 _ 1 8 Try.underlying22 HI0.out HZ0.out HZ1.out HZ2.out rfl (by omega) _ j (nums (shT s bs j)) rfl (HO.out.alloc _) ⟨wr.heap.size, 0, none⟩ 1 1 [.int .i64 q] rfl rfl (nine_new _ _ _) ?c1 ?c2 ?c3 ?c4 ?_)
          case c1 => first | rfl | (intro x hx; simp at hx; subst hx; rfl)
          case c2 => simp only [maxLen]; omega
          case c3 => omega
          case c4 => first | omega | (simp; omega)
          intro v' w4 hown' hgrow _
          have hb1 : Below wr.heap.size wr (wr.alloc (.cells #[.int .i64 q] 2)) := (Below.refl _ _).alloc (Nat.le_refl _) _
          have HON : Hid (w4.ownsRow (w.heap.size + 2) 2 1 v' (j + 1) (nums (shT s bs (j + 1)))) := Lib.hid (by
            show w4.ownsRow _ _ _ _ _ (nums (shT s bs j ++ [shE s bs (shT s bs j) j]))
            rw [HQ.out]; simpa [nums] using hown')
          have hne := fun g hg => (HO.out.lt g hg).1
          have HBN := Lib.hid ((HB.out.alloc HB.out.size (.cells #[.int .i64 q] 2)).grown hgrow (by simp; omega) (fun g hg => by have := hne g hg; omega))
          have HK0 := Lib.hid ((K0.out.alloc _).grown hgrow (fun e => by have := hne _ e.symm; omega))
          have HK1 := Lib.hid ((K1.out.alloc _).grown hgrow (fun e => by have := hne _ e.symm; omega))
          have hs4 : w.heap.size + 2 ≤ w4.heap.size := by have := hgrow.size; simp at this; omega
          clear hown' hgrow hb1 hne
          go_wp2
          go_roundw
          case rel => exact ⟨j + 1, v', by omega, by go_num, rfl, HON, HBN, HK0, HK1, hs4⟩
          case measure => simp [intOf]; omega
        · rw [if_neg (by have := HNB.out; omega)] at hq
          have m2 : (if x < u then u else x) = q := by rw [← hq]; split <;> omega
          have q3 : ¬ (j : Int) < (nb : Int) := by omega
          clear hq c0 c2 hjl hjp
          go_wp2_with (at_builtin; refine wpList_append_own _ rfl (.tmp 54) (.tmp 56) _ rfl (w.heap.size + 2) 2 i0 _ 1 8 Try.underlying22 HI0.out HZ0.out HZ1.out HZ2.out rfl (by omega) _ j (nums (shT s bs j)) rfl (HO.out.alloc _) ⟨wr.heap.size, 0, none⟩ 1 1 [.int .i64 q] rfl rfl (nine_new _ _ _) ?c1 ?c2 ?c3 ?c4 ?_)
          case c1 => first | rfl | (intro x hx; simp at hx; subst hx; rfl)
          case c2 => simp only [maxLen]; omega
          case c3 => omega
          case c4 => first | omega | (simp; omega)
          intro v' w4 hown' hgrow _
          have hb1 : Below wr.heap.size wr (wr.alloc (.cells #[.int .i64 q] 2)) := (Below.refl _ _).alloc (Nat.le_refl _) _
          have HON : Hid (w4.ownsRow (w.heap.size + 2) 2 1 v' (j + 1) (nums (shT s bs (j + 1)))) := Lib.hid (by
            show w4.ownsRow _ _ _ _ _ (nums (shT s bs j ++ [shE s bs (shT s bs j) j]))
            rw [HQ.out]; simpa [nums] using hown')
          have hne := fun g hg => (HO.out.lt g hg).1
          have HBN := Lib.hid ((HB.out.alloc HB.out.size (.cells #[.int .i64 q] 2)).grown hgrow (by simp; omega) (fun g hg => by have := hne g hg; omega))
          have HK0 := Lib.hid ((K0.out.alloc _).grown hgrow (fun e => by have := hne _ e.symm; omega))
          have HK1 := Lib.hid ((K1.out.alloc _).grown hgrow (fun e => by have := hne _ e.symm; omega))
          have hs4 : w.heap.size + 2 ≤ w4.heap.size := by have := hgrow.size; simp at this; omega
          clear hown' hgrow hb1 hne
          go_wp2
          go_roundw
          case rel => exact ⟨j + 1, v', by omega, by go_num, rfl, HON, HBN, HK0, HK1, hs4⟩
          case measure => simp [intOf]; omega
    · obtain rfl : j = m := by omega
      obtain ⟨Ao, co, hsv, hL, hc⟩ := own_readsU HO.out
      subst hsv
      have HLI := Lib.hid hL
      clear hL
      obtain ⟨z0, z1, z2⟩ := K1.out.one
      go_wp2
      have KF := Lib.hid (K1.out.set_ 0 (.slice Ao j co))
      have g0 := (KF.out.cell 0).trans rfl
      have hwb : ∀ ad, Ao = some ad → ad.block ≠ w.heap.size + 1 := fun ad e => by
        obtain ⟨g, hg, hgl, _⟩ := own_at (j := 0) HO.out (by omega)
        rw [hg] at e; cases e
        have := (HO.out.lt g (by rw [hg]; rfl)).1
        show g ≠ w.heap.size + 1; omega
      refine ⟨rfl, .agg #[.slice Ao j co], ?_, Ao, j, co, rfl, ?_, hc, HB.out.setCell (p := ⟨w.heap.size + 1, 0, none⟩) (by show w.heap.size ≤ w.heap.size + 1; omega) _⟩
      · simp [results, Try.results37, go_sem, g0]
      · refine ⟨HLI.out.1, HLI.out.2.1, fun h => ?_⟩
        obtain ⟨ad, e, hb, hcell⟩ := HLI.out.2.2 h
        exact ⟨ad, e, by simpa [World.setCell] using hb, fun jj u hu => cell_st (hcell jj u hu) (by show w.heap.size + 1 ≠ (ad.add jj).block; rw [block_of_add]; exact (hwb ad e).symm)⟩
end Go.Proofs.Ytjdnpgilinfkgaa
