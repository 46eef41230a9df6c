/-
  The walk of PressLasting.
-/
import Derived.Test.YtomncopeekegoaaKC
import Derived.Test.YtomncopeekegoaaKD
import Derived.Test.YtomncopeekegoaaIC
import Derived.Deep.Cut
import Derived.BigQuiet
namespace Go.Proofs.Ytomncopeekegoaa
open Go.RowKit

theorem sum_take_succ {l : List Int} {j : Nat} (h : j < l.length) : (l.take (j + 1)).sum = (l.take j).sum + l[j] := by
  rw [List.take_succ_eq_append_getElem h, List.sum_append]; simp
theorem sum_u8 {l : List Int} (h : ∀ x ∈ l, 0 ≤ x ∧ x ≤ 255) (j : Nat) (hl : l.length ≤ 64) : 0 ≤ (l.take j).sum ∧ (l.take j).sum ≤ 16320 := by
  have h1 := sum_bd (l := l.take j) (M := 255) (fun x hx => h x (List.mem_of_mem_take hx))
  have h2 : (l.take j).length ≤ 64 := by rw [List.length_take]; omega
  omega
theorem gd_snoc (l : List Int) (x : Int) : (l ++ [x]).getD l.length 0 = x := by rw [List.getD_eq_getElem?_getD]; simp
/-- What the first two loops lay: the bytes as numbers, and their sum. -/
theorem mtE_small {a b : List Int} {d : Int} (ha : a.length ≤ 64) (hb : b.length ≤ 64) (h1 : ∀ x ∈ a, 0 ≤ x ∧ x ≤ 255) (h2 : ∀ x ∈ b, 0 ≤ x ∧ x ≤ 255) (hd : 0 ≤ d ∧ d ≤ 65535) : mtE a b d = if min a.sum b.sum < d then 15 else 0 := by
  have l1 : lvW a = true := List.all_eq_true.2 fun x hx => win_iff.2 (by have := h1 x hx; omega)
  have l2 : lvW b = true := List.all_eq_true.2 fun x hx => win_iff.2 (by have := h2 x hx; omega)
  have hc : ckSt a b = 0 := by unfold ckSt; rw [if_neg (by omega)]; unfold ckLv; rw [l1, l2]; rfl
  unfold mtE
  rw [if_pos hc, if_pos (win_iff.2 (by omega))]
theorem lst_start {a b : List Int} {d : Int} (hE : mtE a b d = 0) : Lst a b d (mtL a b d) none := by
  obtain ⟨h1, h2, h3, h4⟩ := mt_fea hE
  refine ⟨⟨d.toNat + a.length + b.length, 0, 0, ?_, h1, by omega, fun _ _ h => by cases h⟩⟩
  unfold mtL
  rw [if_pos hE]

set_option maxRecDepth 100000 in
set_option maxHeartbeats 8000000 in
theorem lasting_walk (B : Nat) (A A' : Option Addr) (n c n' c' : Nat) (a b : List Int) (many : Int) (w : World) (h0 : LU w B A n a) (h1 : LU w B A' n' b) (hB : B ≤ w.heap.size) (hn : n ≤ 9223372036854775807) (hn' : n' ≤ 9223372036854775807) (hm : 0 ≤ many ∧ many ≤ 65535) :
    Calls Try.prog 12 #[.slice A n c, .slice A' n' c', .int .u16 many] w fun e w' => e = .returned (.bool true) ∧ Below w.heap.size w w' := by
  have H := Lib.hid (h0.more hB)
  have H' := Lib.hid (h1.more hB)
  have HNA := Lib.hid h0.1
  have HNB := Lib.hid h1.1
  clear h0 h1 hB
  by_cases c1 : 64 < n
  · have g1 : (64 : Int) < (n : Int) := by omega
    go_enter Try.func12, Try.ntmps12
    go_wp2_with ((refine (works8_any _).mono ?_); rintro e w1 ⟨rfl, hb⟩)
    go_ret
    exact ⟨rfl, hb⟩
  by_cases c2 : 64 < n'
  · have g1 : ¬ (64 : Int) < (n : Int) := by omega
    have g2 : (64 : Int) < (n' : Int) := by omega
    go_enter Try.func12, Try.ntmps12
    go_wp2_with ((refine (works8_any _).mono ?_); rintro e w1 ⟨rfl, hb⟩)
    go_ret
    exact ⟨rfl, hb⟩
  have g1 : ¬ (64 : Int) < (n : Int) := by omega
  have g2 : ¬ (64 : Int) < (n' : Int) := by omega
  obtain ⟨i0, hi0, hz0, hz1, hz2⟩ := info_parts info_i64
  have HI0 := Lib.hid hi0
  have HZ0 := Lib.hid hz0
  have HZ1 := Lib.hid hz1
  have HZ2 := Lib.hid hz2
  have wmany : IntKind.i64.wrap many = many := IntWalk.i64_in _ (by omega)
  have HM := Lib.hid hm
  have n64 : n ≤ 64 := by omega
  have n64' : n' ≤ 64 := by omega
  clear hi0 hz0 hz1 hz2 hm c1 c2
  go_enter Try.func12, Try.ntmps12
  go_wp2_with fail
  go_loopw [7, 9, 11] (fun xv lv iv wr => ∃ (j : Nat) (sv : Value), j ≤ n ∧ sv = xv ∧ lv = .int .i64 (a.take j).sum ∧ iv = .int .i64 j ∧ Hid (wr.ownsRow w.heap.size 2 1 sv j (nums (a.take j))) ∧ Hid (Below w.heap.size w wr)) (fun _ _ iv _ => n - (intOf iv).toNat)
  case atStart => exact ⟨0, _, Nat.zero_le _, rfl, rfl, rfl, Lib.hid (World.ownsRow_nil _ _ _ _), Lib.hid (Below.refl _ _)⟩
  case round =>
    obtain ⟨j, sv, hj, rfl, rfl, rfl, HO, HB⟩ := hrel
    by_cases hlt : j < n
    · have hja : j < a.length := by have := HNA.out.1; omega
      obtain ⟨ad, hA, -, k1⟩ := (H.out.below HB.out (Nat.le_refl _)).at_ (k := j) hja
      obtain rfl := hA
      have hq := HNA.out.2 _ (List.getElem_mem hja)
      have hs1 := sum_u8 HNA.out.2 j (by have := HNA.out.1; omega)
      have hs2 := sum_take_succ hja
      rw [atI_eq hja] at k1
      obtain ⟨q, hqe⟩ : ∃ q, a[j] = q := ⟨_, rfl⟩
      rw [hqe] at k1 hq hs2
      have HSN : Hid (a.take (j + 1) = a.take j ++ [q]) := Lib.hid (by rw [List.take_succ_eq_append_getElem hja, hqe])
      obtain ⟨s, hs⟩ : ∃ s, (a.take j).sum = s := ⟨_, rfl⟩
      rw [hs] at hs1 hs2
      rw [hs]
      have wq : IntKind.i64.wrap q = q := IntWalk.i64_in _ (by omega)
      have wsq : IntKind.i64.wrap (s + q) = s + q := IntWalk.i64_in _ (by omega)
      have HS2 := Lib.hid hs2
      have hsz := HB.out.size
      have gj : (j : Int) < (n : Int) := by omega
      clear hqe hs hs1 hs2 hq
      go_wp2_with (at_builtin; refine wpList_append_own _ rfl (.tmp 34) (.tmp 40) _ rfl w.heap.size 2 i0 _ 1 8 Try.underlying37 HI0.out HZ0.out HZ1.out HZ2.out rfl (by omega) _ j (nums (a.take j)) rfl (HO.out.alloc _) ⟨wr.heap.size, 0, none⟩ 1 1 [.int .i64 q] rfl rfl (nine_new _ _ _) ?c1 ?c2 ?c3 ?c4 ?_)
      case c1 => first | rfl | (intro x hx; simp at hx; subst hx; rfl)
      case c2 => simp only [maxLen]; omega
      case c3 => omega
      case c4 => first | omega | (simp; omega)
      intro v' w4 hown' hgrow _
      have hown2 : w4.ownsRow w.heap.size 2 1 v' (j + 1) (nums (a.take (j + 1))) := by rw [HSN.out]; simpa [nums] using hown'
      have hne := fun g hg => (HO.out.lt g hg).1
      have HBN := Lib.hid ((HB.out.alloc HB.out.size (.cells #[.int .i64 q] 2)).grown hgrow (by simp; omega) (fun g hg => hne g hg))
      obtain ⟨g, cx, rfl, -, -, -, ca1, -, -⟩ := own_at2 hown2 (j := j) (by rw [List.length_take]; omega)
      have hgq : (a.take (j + 1)).getD j 0 = q := by rw [HSN.out]; have := gd_snoc (a.take j) q; rwa [show (a.take j).length = j by rw [List.length_take]; omega] at this
      rw [hgq] at ca1
      have HON := Lib.hid hown2
      have gj2 : (j : Int) < ((j + 1 : Nat) : Int) := by omega
      clear hown' hown2 hgrow hne hgq
      go_wp2
      go_roundw
      case rel => exact ⟨j + 1, _, by omega, rfl, by rw [HS2.out], by go_num, HON, HBN⟩
      case measure => simp [intOf]; omega
    · obtain rfl : j = n := by omega
      have hta : a.take j = a := List.take_of_length_le (by have := HNA.out.1; omega)
      rw [hta] at HO
      rw [hta]
      have gj : ¬ (j : Int) < (j : Int) := by omega
      obtain ⟨W1, rfl⟩ : ∃ W1, W1 = wr := ⟨_, rfl⟩
      obtain ⟨sa, hsa⟩ : ∃ sa, a.sum = sa := ⟨_, rfl⟩
      rw [hsa]
      have HSA := Lib.hid hsa
      clear hsa hta
      have HX := HO
      have HBA := HB
      have hz1 := HB.out.size
      clear HO HB
      go_wp2_with fail
      go_loopw [8, 10, 12] (fun xv lv iv wr => ∃ (k : Nat) (tv : Value), k ≤ n' ∧ tv = xv ∧ lv = .int .i64 (b.take k).sum ∧ iv = .int .i64 k ∧ Hid (wr.ownsRow W1.heap.size 2 1 tv k (nums (b.take k))) ∧ Hid (Below W1.heap.size W1 wr)) (fun _ _ iv _ => n' - (intOf iv).toNat)
      case atStart => exact ⟨0, _, Nat.zero_le _, rfl, rfl, rfl, Lib.hid (World.ownsRow_nil _ _ _ _), Lib.hid (Below.refl _ _)⟩
      case round =>
        obtain ⟨k, tv, hk, rfl, rfl, rfl, HO, HB⟩ := hrel
        by_cases hlt : k < n'
        · have hkb : k < b.length := by have := HNB.out.1; omega
          obtain ⟨ad, hA, -, k1⟩ := (H'.out.below (HBA.out.trans (HB.out.mono hz1)) (Nat.le_refl _)).at_ (k := k) hkb
          obtain rfl := hA
          have hq := HNB.out.2 _ (List.getElem_mem hkb)
          have hs1 := sum_u8 HNB.out.2 k (by have := HNB.out.1; omega)
          have hs2 := sum_take_succ hkb
          rw [atI_eq hkb] at k1
          obtain ⟨q, hqe⟩ : ∃ q, b[k] = q := ⟨_, rfl⟩
          rw [hqe] at k1 hq hs2
          have HSN : Hid (b.take (k + 1) = b.take k ++ [q]) := Lib.hid (by rw [List.take_succ_eq_append_getElem hkb, hqe])
          obtain ⟨s, hs⟩ : ∃ s, (b.take k).sum = s := ⟨_, rfl⟩
          rw [hs] at hs1 hs2
          rw [hs]
          have wq : IntKind.i64.wrap q = q := IntWalk.i64_in _ (by omega)
          have wsq : IntKind.i64.wrap (s + q) = s + q := IntWalk.i64_in _ (by omega)
          have HS2 := Lib.hid hs2
          have hsz := HB.out.size
          have gk : (k : Int) < (n' : Int) := by omega
          clear hqe hs hs1 hs2 hq
          go_wp2_with (at_builtin; refine wpList_append_own _ rfl (.tmp 54) (.tmp 60) _ rfl W1.heap.size 2 i0 _ 1 8 Try.underlying37 HI0.out HZ0.out HZ1.out HZ2.out rfl (by omega) _ k (nums (b.take k)) rfl (HO.out.alloc _) ⟨wr.heap.size, 0, none⟩ 1 1 [.int .i64 q] rfl rfl (nine_new _ _ _) ?c1 ?c2 ?c3 ?c4 ?_)
          case c1 => first | rfl | (intro x hx; simp at hx; subst hx; rfl)
          case c2 => simp only [maxLen]; omega
          case c3 => omega
          case c4 => first | omega | (simp; omega)
          intro v' w4 hown' hgrow _
          have hown2 : w4.ownsRow W1.heap.size 2 1 v' (k + 1) (nums (b.take (k + 1))) := by rw [HSN.out]; simpa [nums] using hown'
          have hne := fun g hg => (HO.out.lt g hg).1
          have HBN := Lib.hid ((HB.out.alloc HB.out.size (.cells #[.int .i64 q] 2)).grown hgrow (by simp; omega) (fun g hg => hne g hg))
          obtain ⟨g, cx, rfl, -, -, -, ca1, -, -⟩ := own_at2 hown2 (j := k) (by rw [List.length_take]; omega)
          have hgq : (b.take (k + 1)).getD k 0 = q := by rw [HSN.out]; have := gd_snoc (b.take k) q; rwa [show (b.take k).length = k by rw [List.length_take]; omega] at this
          rw [hgq] at ca1
          have HON := Lib.hid hown2
          have gk2 : (k : Int) < ((k + 1 : Nat) : Int) := by omega
          clear hown' hown2 hgrow hne hgq
          go_wp2
          go_roundw
          case rel => exact ⟨k + 1, _, by omega, rfl, by rw [HS2.out], by go_num, HON, HBN⟩
          case measure => simp [intOf]; omega
        · obtain rfl : k = n' := by omega
          have htb : b.take k = b := List.take_of_length_le (by have := HNB.out.1; omega)
          rw [htb] at HO
          rw [htb]
          have gk : ¬ (k : Int) < (k : Int) := by omega
          obtain ⟨W2, rfl⟩ : ∃ W2, W2 = wr := ⟨_, rfl⟩
          obtain ⟨sb, hsb⟩ : ∃ sb, b.sum = sb := ⟨_, rfl⟩
          rw [hsb]
          have HSB := Lib.hid hsb
          have HY := HO
          have HX2 := Lib.hid (own_below HX.out HB.out)
          have hz2 := HB.out.size
          have HB2 := Lib.hid (HBA.out.trans (HB.out.mono hz1))
          have hbx := (HX.out.lt)
          clear hsb htb HO HX HBA
          obtain ⟨Ax, cx, rfl, hlx⟩ := li_own HX2.out
          obtain ⟨Ay, cy, rfl, hly⟩ := li_own HY.out
          have hME := mtE_small (a := a) (b := b) (d := many) (by have := HNA.out.1; omega) (by have := HNB.out.1; omega) HNA.out.2 HNB.out.2 HM.out
          rw [HSA.out, HSB.out] at hME
          have MO := Mounts_own W2.heap.size Ax Ay j cx k cy a b many W2 hlx hly (Nat.le_refl _) (by omega) (by omega)
          clear hlx hly
          obtain ⟨mi, hmi⟩ : ∃ mi, min sa sb = mi := ⟨_, rfl⟩
          rw [hmi] at hME
          have q1 : (if sb < sa then sb else sa) = mi := by rw [← hmi]; split <;> omega
          clear hmi
          by_cases hlt2 : mi < many
          · rw [if_pos hlt2] at hME
            have MO' := Lib.hid MO
            have HME := Lib.hid hME
            clear MO hME
            go_wp2_with fail
            refine MO'.out.mono ?_
            rintro e W3 ⟨v, nl, rfl, ho, hb3⟩
            have hL : mtL a b many = [] := by unfold mtL; rw [HME.out]; rfl
            rw [hL] at ho
            obtain ⟨Al, cl, rfl, hr, -⟩ := rt3_own ho
            obtain rfl : nl = 0 := hr.1
            rw [HME.out]
            have HB3 := Lib.hid (HB2.out.trans (hb3.mono (by have := HB2.out.size; omega)))
            clear ho hr hL hb3 MO'
            go_wp2_with fail
            refine (works8_any _).mono ?_
            rintro e u ⟨rfl, hb⟩
            have HB4 := Lib.hid (HB3.out.trans (hb.mono HB3.out.size))
            clear hb
            go_wp2
            go_ret
            exact ⟨rfl, HB4.out⟩
          · rw [if_neg hlt2] at hME
            have MO' := Lib.hid MO
            have HME := Lib.hid hME
            have hls := lst_start hME
            clear MO hME
            go_wp2_with fail
            refine MO'.out.mono ?_
            rintro e W3 ⟨vl, nl, rfl, ho, hb3⟩
            rw [HME.out]
            have hz3 := hb3.size
            have HXX := Lib.hid (own_below HX2.out hb3)
            have HYY := Lib.hid (own_below HY.out hb3)
            have HB3 := Lib.hid (HB2.out.trans (hb3.mono (by have := HB2.out.size; omega)))
            obtain ⟨L, hL⟩ : ∃ L, mtL a b many = L := ⟨_, rfl⟩
            have hlb : L.length ≤ 70000 := by
              rw [← hL]; unfold mtL; rw [HME.out, if_pos rfl]
              have h1 := mnt_len (many.toNat + a.length + b.length) a b 0 0 many
              have := HNA.out.1; have := HNB.out.1; have := HM.out
              omega
            rw [hL] at hls ho
            have hnl : nl = L.length := by have h1 := ho.1; rw [triCells_length] at h1; omega
            have HNL := Lib.hid hnl
            have HNLB : Hid (nl ≤ 70000) := Lib.hid (by omega)
            clear hlb
            clear hnl
            have HLL := Lib.hid ho
            have HLS := Lib.hid hls
            have HGX : Hid (∀ g, (Value.slice Ax j cx).ownBlock = some g → g < W1.heap.size) := Lib.hid (fun g hg => (hbx g hg).2)
            have HGY : Hid (∀ g, (Value.slice Ay k cy).ownBlock = some g → W1.heap.size ≤ g ∧ g < W2.heap.size) := Lib.hid (fun g hg => HY.out.lt g hg)
            have HAL := Lib.hid HNA.out.1
            have HBL := Lib.hid HNB.out.1

            clear ho hb3 hls hbx HX2 HY HB2 hL MO' HI0 HZ0 HZ1 HZ2 H H'
            go_wp2_with fail
            go_loopw [13, 16] (fun dv iv wr => ∃ (u : Nat) (x y : List Int) (d : Int) (p : Option (Nat × Nat)), dv = .int .i64 d ∧ iv = .int .i64 u ∧ u ≤ nl ∧ x.length = j ∧ y.length = k ∧ (0 ≤ d ∧ d ≤ 65535) ∧ Hid (Lst x y d (L.drop u) p) ∧
              Hid (0 < u → ∃ (a b : Nat) (q : Int), p = some (a, b) ∧ L[u - 1]? = some ((a : Int), (b : Int), q) ∧ a < j ∧ b < k) ∧ Hid (wr.ownsRow w.heap.size 2 1 (.slice Ax j cx) j (nums x)) ∧ Hid (wr.ownsRow W1.heap.size 2 1 (.slice Ay k cy) k (nums y)) ∧
              Hid (wr.ownsRow W2.heap.size 63 3 vl nl (triCells L)) ∧ Hid (Below w.heap.size w wr) ∧ W3.heap.size ≤ wr.heap.size) (fun _ iv _ => nl - (intOf iv).toNat)
            case atStart => exact ⟨0, a, b, many, none, rfl, rfl, Nat.zero_le _, HAL.out.symm, HBL.out.symm, HM.out, HLS, Lib.hid (fun h => absurd h (Nat.lt_irrefl _)), HXX, HYY, HLL, HB3, Nat.le_refl _⟩
            case round =>
              clear HXX HYY HLL HB3 HLS
              obtain ⟨u, x, y, d, p, rfl, rfl, hu, hxl, hyl, hd, HLS, HPV, HX, HY, HLR, HB, hzw⟩ := hrel
              obtain ⟨Al, cl, rfl, hr3, -⟩ := rt3_own HLR.out
              by_cases hlt : u < nl
              · have hLu : u < L.length := by have := HNL.out; omega
                have hls := HLS.out
                rw [List.drop_eq_getElem_cons hLu] at hls
                obtain ⟨I, J, q, hm, hN, hLst⟩ := lst_cons hls
                obtain ⟨ad, hA, hbl, m0, m1, m2⟩ := hr3.at_ (k := u) hLu
                obtain rfl := hA
                rw [hm] at m0 m1 m2
                dsimp only at m0 m1 m2
                have hadl := (HLR.out.lt ad.block rfl).1
                have HLN := Lib.hid hLst
                have HNX := Lib.hid hN
                have HMU := Lib.hid hm
                have gu : (u : Int) < (nl : Int) := by omega
                clear hls hLst hN hm hr3 hbl
                go_wp2_with fail
                obtain ⟨Wm, hWm⟩ : ∃ W, wr.alloc (.cells #[.int .i64 I, .int .i64 J, .int .i64 q] 63) = W := ⟨_, rfl⟩
                have hbm : Below wr.heap.size wr Wm := by rw [← hWm]; exact below_a _ _
                have KM : Hid (Blk Wm wr.heap.size 63 #[.int .i64 I, .int .i64 J, .int .i64 q]) := Lib.hid (by rw [← hWm]; exact Blk.new _ _ _)
                rw [hWm]
                clear hWm m0 m1 m2
                have HX1 := own_below HX.out hbm
                have HY1 := own_below HY.out hbm
                have HLR1 := Lib.hid (own_below HLR.out hbm)
                have HB1 := Lib.hid (HB.out.trans (hbm.mono HB.out.size))
                have hzm : W3.heap.size ≤ Wm.heap.size := by have := hbm.size; omega
                clear hbm HX HY HLR HB
                have hIx : I < x.length := HNX.out.ix
                have hJy : J < y.length := HNX.out.jy
                obtain ⟨gx, cx', ex, -, -, -, ax1, ax2, -⟩ := own_at2 HX1 hIx
                simp only [Value.slice.injEq, true_and] at ex
                obtain ⟨rfl, rfl⟩ := ex
                obtain ⟨gy, cy', ey, -, -, -, ay1, ay2, -⟩ := own_at2 HY1 hJy
                simp only [Value.slice.injEq, true_and] at ey
                obtain ⟨rfl, rfl⟩ := ey
                have hgx := HGX.out gx rfl
                have hgy := HGY.out gy rfl
                have HX2 := Lib.hid HX1
                have HY2 := Lib.hid HY1
                have hq := And.intro HNX.out.q1 (And.intro HNX.out.qn (And.intro HNX.out.qx (And.intro HNX.out.qy (And.intro HNX.out.xb HNX.out.yb))))
                obtain ⟨xi, hxi⟩ : ∃ v, x.getD I 0 = v := ⟨_, rfl⟩
                obtain ⟨yj, hyj⟩ : ∃ v, y.getD J 0 = v := ⟨_, rfl⟩
                rw [hxi, hyj] at hq
                rw [hxi] at ax1
                rw [hyj] at ay1
                have HXI := Lib.hid hxi
                have HYJ := Lib.hid hyj
                clear HX1 HY1 hxi hyj
                have t1 : decide ((I : Int) < 0) = false := by simp
                have t2 : decide ((j : Int) ≤ (I : Int)) = false := by simp; omega
                have t2' : decide (j ≤ I) = false := by simp; omega
                have t3 : decide ((J : Int) < 0) = false := by simp
                have t4 : decide ((k : Int) ≤ (J : Int)) = false := by simp; omega
                have t4' : decide (k ≤ J) = false := by simp; omega
                have t5 : decide (q < 1) = false := by simp; omega
                have t6 : decide (xi < q) = false := by simp; omega
                have t7 : decide (yj < q) = false := by simp; omega
                have gI : (I : Int) < (j : Int) := by omega
                have gJ : (J : Int) < (k : Int) := by omega
                have km0 := (KM.out.cell 0).trans rfl
                have km1 := (KM.out.cell 1).trans rfl
                have km2 := (KM.out.cell 2).trans rfl
                have HUN : Hid (u + 1 ≤ nl ∧ nl ≤ 70000) := Lib.hid ⟨by omega, HNLB.out⟩
                have HUN : Hid (u + 1 ≤ nl ∧ nl ≤ 70000) := Lib.hid ⟨by omega, HNLB.out⟩
                have HUN : Hid (u + 1 ≤ nl ∧ nl ≤ 70000) := Lib.hid ⟨by omega, HNLB.out⟩
                have HW1 : Hid (wrap64 ((u : Int) + 1) = ((u + 1 : Nat) : Int)) := Lib.hid (by have := HUN.out; unfold wrap64; omega)
                have HMS : Hid (nl - (((u + 1 : Nat) : Int)).toNat < nl - ((u : Int)).toNat) := Lib.hid (by have := HUN.out; omega)
                have HUN : Hid (u + 1 ≤ nl ∧ nl ≤ 70000) := Lib.hid ⟨by omega, HNLB.out⟩
                have HW1 : Hid (wrap64 ((u : Int) + 1) = ((u + 1 : Nat) : Int)) := Lib.hid (by have := HUN.out; unfold wrap64; omega)
                have HMS : Hid (nl - (((u + 1 : Nat) : Int)).toNat < nl - ((u : Int)).toNat) := Lib.hid (by have := HUN.out; omega)
                have HUN : Hid (u + 1 ≤ nl ∧ nl ≤ 70000) := Lib.hid ⟨by omega, HNLB.out⟩
                have HW1 : Hid (wrap64 ((u : Int) + 1) = ((u + 1 : Nat) : Int)) := Lib.hid (by have := HUN.out; unfold wrap64; omega)
                have HMS : Hid (nl - (((u + 1 : Nat) : Int)).toNat < nl - ((u : Int)).toNat) := Lib.hid (by have := HUN.out; omega)
                have HUN : Hid (u + 1 ≤ nl ∧ nl ≤ 70000) := Lib.hid ⟨by omega, HNLB.out⟩
                have HW1 : Hid (wrap64 ((u : Int) + 1) = ((u + 1 : Nat) : Int)) := Lib.hid (by have := HUN.out; unfold wrap64; omega)
                have HMS : Hid (nl - (((u + 1 : Nat) : Int)).toNat < nl - ((u : Int)).toNat) := Lib.hid (by have := HUN.out; omega)
                have HUN : Hid (u + 1 ≤ nl ∧ nl ≤ 70000) := Lib.hid ⟨by omega, HNLB.out⟩
                have HW1 : Hid (wrap64 ((u : Int) + 1) = ((u + 1 : Nat) : Int)) := Lib.hid (by have := HUN.out; unfold wrap64; omega)
                have HMS : Hid (nl - (((u + 1 : Nat) : Int)).toNat < nl - ((u : Int)).toNat) := Lib.hid (by have := HUN.out; omega)
                go_quiet (fail)
                obtain ⟨Wn, hWn⟩ : ∃ W, Wm.drewN nq = W := ⟨_, rfl⟩
                have HX : Hid (Wn.ownsRow w.heap.size 2 1 (.slice (some ⟨gx, 0, none⟩) j cx) j (nums x)) := Lib.hid (by rw [← hWn]; exact HX2.out.drewN_ _)
                have HY : Hid (Wn.ownsRow W1.heap.size 2 1 (.slice (some ⟨gy, 0, none⟩) k cy) k (nums y)) := Lib.hid (by rw [← hWn]; exact HY2.out.drewN_ _)
                have HLR : Hid (Wn.ownsRow W2.heap.size 63 3 (.slice (some ad) nl cl) nl (triCells L)) := Lib.hid (by rw [← hWn]; exact HLR1.out.drewN_ _)
                have HB : Hid (Below w.heap.size w Wn) := Lib.hid (by rw [← hWn]; exact below_drewN_ HB1.out _)
                have KMn : Hid (Blk Wn wr.heap.size 63 #[.int .i64 I, .int .i64 J, .int .i64 q]) := Lib.hid (by rw [← hWn]; exact KM.out.drewN _)
                have hzn : W3.heap.size ≤ Wn.heap.size := by rw [← hWn]; exact hzm
                have KM := KMn
                rw [hWn]
                clear hWn KMn HX2 HY2 HLR1 HB1 km0 km1 km2 ax1 ax2 ay1 ay2 t1 t2 t2' t3 t4 t4' t5 t6 t7
                by_cases hu0 : u = 0
                · have gu0 : ¬ 0 < u := by omega
                  obtain ⟨Wp, rfl⟩ : ∃ W, W = Wn := ⟨_, rfl⟩
                  have hzp := hzn
                  clear hzn
                  go_upto_region 31 with fail
                  as_aux_lemma =>
                    have hgxy : gx ≠ gy := by have := HGX.out gx rfl; have := (HGY.out gy rfl).1; omega
                    have w1 : IntKind.i64.wrap (xi - q) = xi - q := IntWalk.i64_in _ (by omega)
                    have w2 : IntKind.i64.wrap (yj - q) = yj - q := IntWalk.i64_in _ (by omega)
                    have w3 : IntKind.i64.wrap (d - q) = d - q := IntWalk.i64_in _ (by omega)
                    obtain ⟨gx', cx', ex, hbx, -, -, ax1, ax2, hsx⟩ := own_at2 HX.out hIx
                    simp only [Value.slice.injEq, Option.some.injEq, Addr.mk.injEq, and_true, true_and] at ex
                    obtain ⟨rfl, rfl⟩ := ex
                    have km0 := (KM.out.cell 0).trans rfl
                    have km2 := (KM.out.cell 2).trans rfl
                    have HSX := Lib.hid hsx
                    rw [HXI.out] at ax1
                    clear hsx
                    have hgl := hadl
                    go_still_tail 9, (by kernel_rfl)
                    repeat still_step
                    try refine wpStill_nil ?_
                    change wpList _ _ _ _ _ (World.drew _)
                    go_wp2_with fail
                    obtain ⟨W5, hW5⟩ : ∃ W5, (Wp.setCell ⟨gx, I, none⟩ (.int .i64 (xi - q))).drew = W5 := ⟨_, rfl⟩
                    have HX5 : Hid (W5.ownsRow w.heap.size 2 1 (.slice (some ⟨gx, 0, none⟩) j cx) j (nums (x.set I (xi - q)))) := Lib.hid (by rw [← hW5]; exact (HSX.out (xi - q)).drew)
                    have HY5 : Hid (W5.ownsRow W1.heap.size 2 1 (.slice (some ⟨gy, 0, none⟩) k cy) k (nums y)) := Lib.hid (by rw [← hW5]; exact (ownsRow_setCell_other HY.out (by simp [Value.ownBlock]; exact fun e => hgxy e.symm) _).drew)
                    have HLR5 : Hid (W5.ownsRow W2.heap.size 63 3 (.slice (some ad) nl cl) nl (triCells L)) := Lib.hid (by rw [← hW5]; exact (ownsRow_setCell_other HLR.out (fun e => by have e := Option.some.inj e; have e : ad.block = gx := e; omega) _).drew)
                    have HB5 : Hid (Below w.heap.size w W5) := Lib.hid (by rw [← hW5]; exact (HB.out.setCell hbx _).drew)
                    have KM5 : Hid (Blk W5 wr.heap.size 63 #[.int .i64 I, .int .i64 J, .int .i64 q]) := Lib.hid (by rw [← hW5]; exact (KM.out.far (by show wr.heap.size ≠ gx; omega) _).drew)
                    have hz5 : W3.heap.size ≤ W5.heap.size := by rw [← hW5]; simpa [World.setCell] using hzp
                    (try rw [hW5])
                    clear hW5 HX HY HLR HB KM HSX ax1 ax2 km0 km2 hbx hzp
                    as_aux_lemma =>
                      obtain ⟨gy', cy', ey, hby, -, -, ay1, ay2, hsy⟩ := own_at2 HY5.out hJy
                      simp only [Value.slice.injEq, Option.some.injEq, Addr.mk.injEq, and_true, true_and] at ey
                      obtain ⟨rfl, rfl⟩ := ey
                      have km1 := (KM5.out.cell 1).trans rfl
                      have km2 := (KM5.out.cell 2).trans rfl
                      have HSY := Lib.hid hsy
                      rw [HYJ.out] at ay1
                      clear hsy
                      go_still_tail 9, (by kernel_rfl)
                      repeat still_step
                      try refine wpStill_nil ?_
                      change wpList _ _ _ _ _ (World.drew _)
                      go_upto_region 33 with fail
                      obtain ⟨W6, hW6⟩ : ∃ W6, (W5.setCell ⟨gy, J, none⟩ (.int .i64 (yj - q))).drew = W6 := ⟨_, rfl⟩
                      have HY6 : Hid (W6.ownsRow W1.heap.size 2 1 (.slice (some ⟨gy, 0, none⟩) k cy) k (nums (y.set J (yj - q)))) := Lib.hid (by rw [← hW6]; exact (HSY.out (yj - q)).drew)
                      have HX6 : Hid (W6.ownsRow w.heap.size 2 1 (.slice (some ⟨gx, 0, none⟩) j cx) j (nums (x.set I (xi - q)))) := Lib.hid (by rw [← hW6]; exact (ownsRow_setCell_other HX5.out (by simp [Value.ownBlock]; exact hgxy) _).drew)
                      have HLR6 : Hid (W6.ownsRow W2.heap.size 63 3 (.slice (some ad) nl cl) nl (triCells L)) := Lib.hid (by rw [← hW6]; exact (ownsRow_setCell_other HLR5.out (fun e => by have e := Option.some.inj e; have e : ad.block = gy := e; omega) _).drew)
                      have hwy : w.heap.size ≤ gy := by omega
                      have HB6 : Hid (Below w.heap.size w W6) := Lib.hid (by rw [← hW6]; exact (HB5.out.setCell hwy _).drew)
                      have KM6 : Hid (Blk W6 wr.heap.size 63 #[.int .i64 I, .int .i64 J, .int .i64 q]) := Lib.hid (by rw [← hW6]; exact (KM5.out.far (by show wr.heap.size ≠ gy; omega) _).drew)
                      have hz6 : W3.heap.size ≤ W6.heap.size := by rw [← hW6]; simpa [World.setCell] using hz5
                      (try rw [hW6])
                      clear hW6 HX5 HY5 HLR5 HB5 KM5 HSY ay1 ay2 km1 km2 hby hz5
                      as_aux_lemma =>
                        have km2 := (KM6.out.cell 2).trans rfl
                        obtain ⟨hun1, hun2⟩ := HUN.out
                        have HLN6 : Hid (Lst (x.set I (xi - q)) (y.set J (yj - q)) (d - q) (L.drop (u + 1)) (some (I, J))) := Lib.hid (by rw [← HXI.out, ← HYJ.out]; exact HLN.out)
                        have HPN : Hid (0 < u + 1 → ∃ (a b : Nat) (q : Int), some (I, J) = some (a, b) ∧ L[u + 1 - 1]? = some ((a : Int), (b : Int), q) ∧ a < j ∧ b < k) := Lib.hid (fun _ => ⟨I, J, q, rfl, by rw [show u + 1 - 1 = u by omega, List.getElem?_eq_getElem hLu, HMU.out], by omega, by omega⟩)
                        go_wp2
                        go_roundw
                        case rel => exact ⟨u + 1, x.set I (xi - q), y.set J (yj - q), d - q, some (I, J), rfl, (by first | go_num | rw [HW1.out]), HUN.out.1, by rw [List.length_set]; exact hxl, by rw [List.length_set]; exact hyl, by omega, HLN6, HPN, HX6, HY6, HLR6, HB6, hz6⟩
                        case measure => have hun := HUN.out; simp [intOf]; omega
                · have gu0 : 0 < u := by omega
                  obtain ⟨a0, b0, q0, hp, hl0, ha0, hb0⟩ := HPV.out gu0
                  obtain ⟨t, ht⟩ : ∃ t, t + 1 = u := ⟨u - 1, by omega⟩
                  have hn3 := HNX.out.pr a0 b0 hp
                  rw [show u - 1 = t by omega] at hl0
                  have htL : t < L.length := by have := HNL.out; omega
                  have hlt0 : L[t] = ((a0 : Int), (b0 : Int), q0) := by rw [List.getElem?_eq_getElem htL] at hl0; exact Option.some.inj hl0
                  obtain ⟨Al', cl', el, hr3, -⟩ := rt3_own HLR.out
                  simp only [Value.slice.injEq, true_and] at el
                  obtain ⟨rfl, rfl⟩ := el
                  obtain ⟨ad', hA, -, l0, l1, l2⟩ := hr3.at_ (k := t) htL
                  obtain rfl := Option.some.inj hA
                  rw [hlt0] at l0 l1 l2
                  dsimp only at l0 l1 l2
                  have ew : wrap64 ((u : Int) - 1) = (t : Int) := by have := HUN.out; unfold wrap64; omega
                  have HT := Lib.hid ht
                  have gt : (t : Int) < (nl : Int) := by omega
                  have HN3 := Lib.hid hn3
                  clear hr3 hlt0 hl0 hA ht hp hn3
                  go_upto_region 29 with fail
                  obtain ⟨Wp, hWp⟩ : ∃ W, Wn.alloc (.cells #[.int .i64 a0, .int .i64 b0, .int .i64 q0] 63) = W := ⟨_, rfl⟩
                  have hbp : Below Wn.heap.size Wn Wp := by rw [← hWp]; exact below_a _ _
                  have KW : Hid (Blk Wp Wn.heap.size 63 #[.int .i64 a0, .int .i64 b0, .int .i64 q0]) := Lib.hid (by rw [← hWp]; exact Blk.new _ _ _)
                  rw [hWp]
                  have hkm := KM.out.lt
                  replace HX := Lib.hid (own_below HX.out hbp)
                  replace HY := Lib.hid (own_below HY.out hbp)
                  replace HLR := Lib.hid (own_below HLR.out hbp)
                  replace HB := Lib.hid (HB.out.trans (hbp.mono HB.out.size))
                  replace KM := Lib.hid (KM.out.below hbp hkm)
                  have hzp : W3.heap.size ≤ Wp.heap.size := by have := hbp.size; omega
                  clear hWp hbp hzn l0 l1 l2 hkm
                  have km0 := (KM.out.cell 0).trans rfl
                  have km1 := (KM.out.cell 1).trans rfl
                  have km2 := (KM.out.cell 2).trans rfl
                  have kw0 := (KW.out.cell 0).trans rfl
                  have kw1 := (KW.out.cell 1).trans rfl
                  have kw2 := (KW.out.cell 2).trans rfl
                  obtain ⟨gxa, cxa, exa, -, -, -, ax1, -, -⟩ := own_at2 HX.out (j := a0) (by omega)
                  simp only [Value.slice.injEq, Option.some.injEq, Addr.mk.injEq, and_true, true_and] at exa
                  obtain ⟨rfl, rfl⟩ := exa
                  obtain ⟨gya, cya, eya, -, -, -, ay1, -, -⟩ := own_at2 HY.out (j := b0) (by omega)
                  simp only [Value.slice.injEq, Option.some.injEq, Addr.mk.injEq, and_true, true_and] at eya
                  obtain ⟨rfl, rfl⟩ := eya
                  have e1 := HN3.out.1
                  have e2 := HN3.out.2.1
                  have ga0 : (a0 : Int) < (j : Int) := by omega
                  have gb0 : (b0 : Int) < (k : Int) := by omega
                  by_cases ca : I = a0
                  · have hJb : ¬ J = b0 := fun h => HN3.out.2.2.1 ⟨ca, h⟩
                    rw [HN3.out.2.2.2.2 (by omega)] at ay1
                    subst ca
                    have z1 : ((J : Int) == (b0 : Int)) = false := by simp only [beq_eq_false_iff_ne]; omega
                    have z1' : (J == b0) = false := by simp only [beq_eq_false_iff_ne]; omega
                    have z2 : b0 < J := by omega
                    go_upto_region 31 with fail
                    clear km0 km1 km2 kw0 kw1 kw2 KW ax1 ay1
                    as_aux_lemma =>
                      as_aux_lemma =>
                        have hgxy : gx ≠ gy := by have := HGX.out gx rfl; have := (HGY.out gy rfl).1; omega
                        have w1 : IntKind.i64.wrap (xi - q) = xi - q := IntWalk.i64_in _ (by omega)
                        have w2 : IntKind.i64.wrap (yj - q) = yj - q := IntWalk.i64_in _ (by omega)
                        have w3 : IntKind.i64.wrap (d - q) = d - q := IntWalk.i64_in _ (by omega)
                        obtain ⟨gx', cx', ex, hbx, -, -, ax1, ax2, hsx⟩ := own_at2 HX.out hIx
                        simp only [Value.slice.injEq, Option.some.injEq, Addr.mk.injEq, and_true, true_and] at ex
                        obtain ⟨rfl, rfl⟩ := ex
                        have km0 := (KM.out.cell 0).trans rfl
                        have km2 := (KM.out.cell 2).trans rfl
                        have HSX := Lib.hid hsx
                        rw [HXI.out] at ax1
                        clear hsx
                        have hgl := hadl
                        go_still_tail 9, (by kernel_rfl)
                        repeat still_step
                        try refine wpStill_nil ?_
                        change wpList _ _ _ _ _ (World.drew _)
                        go_wp2_with fail
                        obtain ⟨W5, hW5⟩ : ∃ W5, (Wp.setCell ⟨gx, I, none⟩ (.int .i64 (xi - q))).drew = W5 := ⟨_, rfl⟩
                        have HX5 : Hid (W5.ownsRow w.heap.size 2 1 (.slice (some ⟨gx, 0, none⟩) j cx) j (nums (x.set I (xi - q)))) := Lib.hid (by rw [← hW5]; exact (HSX.out (xi - q)).drew)
                        have HY5 : Hid (W5.ownsRow W1.heap.size 2 1 (.slice (some ⟨gy, 0, none⟩) k cy) k (nums y)) := Lib.hid (by rw [← hW5]; exact (ownsRow_setCell_other HY.out (by simp [Value.ownBlock]; exact fun e => hgxy e.symm) _).drew)
                        have HLR5 : Hid (W5.ownsRow W2.heap.size 63 3 (.slice (some ad) nl cl) nl (triCells L)) := Lib.hid (by rw [← hW5]; exact (ownsRow_setCell_other HLR.out (fun e => by have e := Option.some.inj e; have e : ad.block = gx := e; omega) _).drew)
                        have HB5 : Hid (Below w.heap.size w W5) := Lib.hid (by rw [← hW5]; exact (HB.out.setCell hbx _).drew)
                        have KM5 : Hid (Blk W5 wr.heap.size 63 #[.int .i64 I, .int .i64 J, .int .i64 q]) := Lib.hid (by rw [← hW5]; exact (KM.out.far (by show wr.heap.size ≠ gx; omega) _).drew)
                        have hz5 : W3.heap.size ≤ W5.heap.size := by rw [← hW5]; simpa [World.setCell] using hzp
                        (try rw [hW5])
                        clear hW5 HX HY HLR HB KM HSX ax1 ax2 km0 km2 hbx hzp
                        as_aux_lemma =>
                          obtain ⟨gy', cy', ey, hby, -, -, ay1, ay2, hsy⟩ := own_at2 HY5.out hJy
                          simp only [Value.slice.injEq, Option.some.injEq, Addr.mk.injEq, and_true, true_and] at ey
                          obtain ⟨rfl, rfl⟩ := ey
                          have km1 := (KM5.out.cell 1).trans rfl
                          have km2 := (KM5.out.cell 2).trans rfl
                          have HSY := Lib.hid hsy
                          rw [HYJ.out] at ay1
                          clear hsy
                          go_still_tail 9, (by kernel_rfl)
                          repeat still_step
                          try refine wpStill_nil ?_
                          change wpList _ _ _ _ _ (World.drew _)
                          go_upto_region 33 with fail
                          obtain ⟨W6, hW6⟩ : ∃ W6, (W5.setCell ⟨gy, J, none⟩ (.int .i64 (yj - q))).drew = W6 := ⟨_, rfl⟩
                          have HY6 : Hid (W6.ownsRow W1.heap.size 2 1 (.slice (some ⟨gy, 0, none⟩) k cy) k (nums (y.set J (yj - q)))) := Lib.hid (by rw [← hW6]; exact (HSY.out (yj - q)).drew)
                          have HX6 : Hid (W6.ownsRow w.heap.size 2 1 (.slice (some ⟨gx, 0, none⟩) j cx) j (nums (x.set I (xi - q)))) := Lib.hid (by rw [← hW6]; exact (ownsRow_setCell_other HX5.out (by simp [Value.ownBlock]; exact hgxy) _).drew)
                          have HLR6 : Hid (W6.ownsRow W2.heap.size 63 3 (.slice (some ad) nl cl) nl (triCells L)) := Lib.hid (by rw [← hW6]; exact (ownsRow_setCell_other HLR5.out (fun e => by have e := Option.some.inj e; have e : ad.block = gy := e; omega) _).drew)
                          have hwy : w.heap.size ≤ gy := by omega
                          have HB6 : Hid (Below w.heap.size w W6) := Lib.hid (by rw [← hW6]; exact (HB5.out.setCell hwy _).drew)
                          have KM6 : Hid (Blk W6 wr.heap.size 63 #[.int .i64 I, .int .i64 J, .int .i64 q]) := Lib.hid (by rw [← hW6]; exact (KM5.out.far (by show wr.heap.size ≠ gy; omega) _).drew)
                          have hz6 : W3.heap.size ≤ W6.heap.size := by rw [← hW6]; simpa [World.setCell] using hz5
                          (try rw [hW6])
                          clear hW6 HX5 HY5 HLR5 HB5 KM5 HSY ay1 ay2 km1 km2 hby hz5
                          as_aux_lemma =>
                            have km2 := (KM6.out.cell 2).trans rfl
                            obtain ⟨hun1, hun2⟩ := HUN.out
                            have HLN6 : Hid (Lst (x.set I (xi - q)) (y.set J (yj - q)) (d - q) (L.drop (u + 1)) (some (I, J))) := Lib.hid (by rw [← HXI.out, ← HYJ.out]; exact HLN.out)
                            have HPN : Hid (0 < u + 1 → ∃ (a b : Nat) (q : Int), some (I, J) = some (a, b) ∧ L[u + 1 - 1]? = some ((a : Int), (b : Int), q) ∧ a < j ∧ b < k) := Lib.hid (fun _ => ⟨I, J, q, rfl, by rw [show u + 1 - 1 = u by omega, List.getElem?_eq_getElem hLu, HMU.out], by omega, by omega⟩)
                            go_wp2
                            go_roundw
                            case rel => exact ⟨u + 1, x.set I (xi - q), y.set J (yj - q), d - q, some (I, J), rfl, (by first | go_num | rw [HW1.out]), HUN.out.1, by rw [List.length_set]; exact hxl, by rw [List.length_set]; exact hyl, by omega, HLN6, HPN, HX6, HY6, HLR6, HB6, hz6⟩
                            case measure => have hun := HUN.out; simp [intOf]; omega
                  · rw [HN3.out.2.2.2.1 (by omega)] at ax1
                    have z0 : ((I : Int) == (a0 : Int)) = false := by simp only [beq_eq_false_iff_ne]; omega
                    have z0' : (I == a0) = false := by simp only [beq_eq_false_iff_ne]; omega
                    have z3 : a0 < I := by omega
                    by_cases cb : J = b0
                    · subst cb
                      go_upto_region 31 with fail
                      clear km0 km1 km2 kw0 kw1 kw2 KW ax1 ay1
                      as_aux_lemma =>
                        have hgxy : gx ≠ gy := by have := HGX.out gx rfl; have := (HGY.out gy rfl).1; omega
                        have w1 : IntKind.i64.wrap (xi - q) = xi - q := IntWalk.i64_in _ (by omega)
                        have w2 : IntKind.i64.wrap (yj - q) = yj - q := IntWalk.i64_in _ (by omega)
                        have w3 : IntKind.i64.wrap (d - q) = d - q := IntWalk.i64_in _ (by omega)
                        obtain ⟨gx', cx', ex, hbx, -, -, ax1, ax2, hsx⟩ := own_at2 HX.out hIx
                        simp only [Value.slice.injEq, Option.some.injEq, Addr.mk.injEq, and_true, true_and] at ex
                        obtain ⟨rfl, rfl⟩ := ex
                        have km0 := (KM.out.cell 0).trans rfl
                        have km2 := (KM.out.cell 2).trans rfl
                        have HSX := Lib.hid hsx
                        rw [HXI.out] at ax1
                        clear hsx
                        have hgl := hadl
                        go_still_tail 9, (by kernel_rfl)
                        repeat still_step
                        try refine wpStill_nil ?_
                        change wpList _ _ _ _ _ (World.drew _)
                        go_wp2_with fail
                        obtain ⟨W5, hW5⟩ : ∃ W5, (Wp.setCell ⟨gx, I, none⟩ (.int .i64 (xi - q))).drew = W5 := ⟨_, rfl⟩
                        have HX5 : Hid (W5.ownsRow w.heap.size 2 1 (.slice (some ⟨gx, 0, none⟩) j cx) j (nums (x.set I (xi - q)))) := Lib.hid (by rw [← hW5]; exact (HSX.out (xi - q)).drew)
                        have HY5 : Hid (W5.ownsRow W1.heap.size 2 1 (.slice (some ⟨gy, 0, none⟩) k cy) k (nums y)) := Lib.hid (by rw [← hW5]; exact (ownsRow_setCell_other HY.out (by simp [Value.ownBlock]; exact fun e => hgxy e.symm) _).drew)
                        have HLR5 : Hid (W5.ownsRow W2.heap.size 63 3 (.slice (some ad) nl cl) nl (triCells L)) := Lib.hid (by rw [← hW5]; exact (ownsRow_setCell_other HLR.out (fun e => by have e := Option.some.inj e; have e : ad.block = gx := e; omega) _).drew)
                        have HB5 : Hid (Below w.heap.size w W5) := Lib.hid (by rw [← hW5]; exact (HB.out.setCell hbx _).drew)
                        have KM5 : Hid (Blk W5 wr.heap.size 63 #[.int .i64 I, .int .i64 J, .int .i64 q]) := Lib.hid (by rw [← hW5]; exact (KM.out.far (by show wr.heap.size ≠ gx; omega) _).drew)
                        have hz5 : W3.heap.size ≤ W5.heap.size := by rw [← hW5]; simpa [World.setCell] using hzp
                        (try rw [hW5])
                        clear hW5 HX HY HLR HB KM HSX ax1 ax2 km0 km2 hbx hzp
                        as_aux_lemma =>
                          obtain ⟨gy', cy', ey, hby, -, -, ay1, ay2, hsy⟩ := own_at2 HY5.out hJy
                          simp only [Value.slice.injEq, Option.some.injEq, Addr.mk.injEq, and_true, true_and] at ey
                          obtain ⟨rfl, rfl⟩ := ey
                          have km1 := (KM5.out.cell 1).trans rfl
                          have km2 := (KM5.out.cell 2).trans rfl
                          have HSY := Lib.hid hsy
                          rw [HYJ.out] at ay1
                          clear hsy
                          go_still_tail 9, (by kernel_rfl)
                          repeat still_step
                          try refine wpStill_nil ?_
                          change wpList _ _ _ _ _ (World.drew _)
                          go_upto_region 33 with fail
                          obtain ⟨W6, hW6⟩ : ∃ W6, (W5.setCell ⟨gy, J, none⟩ (.int .i64 (yj - q))).drew = W6 := ⟨_, rfl⟩
                          have HY6 : Hid (W6.ownsRow W1.heap.size 2 1 (.slice (some ⟨gy, 0, none⟩) k cy) k (nums (y.set J (yj - q)))) := Lib.hid (by rw [← hW6]; exact (HSY.out (yj - q)).drew)
                          have HX6 : Hid (W6.ownsRow w.heap.size 2 1 (.slice (some ⟨gx, 0, none⟩) j cx) j (nums (x.set I (xi - q)))) := Lib.hid (by rw [← hW6]; exact (ownsRow_setCell_other HX5.out (by simp [Value.ownBlock]; exact hgxy) _).drew)
                          have HLR6 : Hid (W6.ownsRow W2.heap.size 63 3 (.slice (some ad) nl cl) nl (triCells L)) := Lib.hid (by rw [← hW6]; exact (ownsRow_setCell_other HLR5.out (fun e => by have e := Option.some.inj e; have e : ad.block = gy := e; omega) _).drew)
                          have hwy : w.heap.size ≤ gy := by omega
                          have HB6 : Hid (Below w.heap.size w W6) := Lib.hid (by rw [← hW6]; exact (HB5.out.setCell hwy _).drew)
                          have KM6 : Hid (Blk W6 wr.heap.size 63 #[.int .i64 I, .int .i64 J, .int .i64 q]) := Lib.hid (by rw [← hW6]; exact (KM5.out.far (by show wr.heap.size ≠ gy; omega) _).drew)
                          have hz6 : W3.heap.size ≤ W6.heap.size := by rw [← hW6]; simpa [World.setCell] using hz5
                          (try rw [hW6])
                          clear hW6 HX5 HY5 HLR5 HB5 KM5 HSY ay1 ay2 km1 km2 hby hz5
                          as_aux_lemma =>
                            have km2 := (KM6.out.cell 2).trans rfl
                            obtain ⟨hun1, hun2⟩ := HUN.out
                            have HLN6 : Hid (Lst (x.set I (xi - q)) (y.set J (yj - q)) (d - q) (L.drop (u + 1)) (some (I, J))) := Lib.hid (by rw [← HXI.out, ← HYJ.out]; exact HLN.out)
                            have HPN : Hid (0 < u + 1 → ∃ (a b : Nat) (q : Int), some (I, J) = some (a, b) ∧ L[u + 1 - 1]? = some ((a : Int), (b : Int), q) ∧ a < j ∧ b < k) := Lib.hid (fun _ => ⟨I, J, q, rfl, by rw [show u + 1 - 1 = u by omega, List.getElem?_eq_getElem hLu, HMU.out], by omega, by omega⟩)
                            go_wp2
                            go_roundw
                            case rel => exact ⟨u + 1, x.set I (xi - q), y.set J (yj - q), d - q, some (I, J), rfl, (by first | go_num | rw [HW1.out]), HUN.out.1, by rw [List.length_set]; exact hxl, by rw [List.length_set]; exact hyl, by omega, HLN6, HPN, HX6, HY6, HLR6, HB6, hz6⟩
                            case measure => have hun := HUN.out; simp [intOf]; omega
                    · rw [HN3.out.2.2.2.2 (by omega)] at ay1
                      have z2 : b0 < J := by omega
                      go_upto_region 31 with fail
                      clear km0 km1 km2 kw0 kw1 kw2 KW ax1 ay1
                      as_aux_lemma =>
                        have hgxy : gx ≠ gy := by have := HGX.out gx rfl; have := (HGY.out gy rfl).1; omega
                        have w1 : IntKind.i64.wrap (xi - q) = xi - q := IntWalk.i64_in _ (by omega)
                        have w2 : IntKind.i64.wrap (yj - q) = yj - q := IntWalk.i64_in _ (by omega)
                        have w3 : IntKind.i64.wrap (d - q) = d - q := IntWalk.i64_in _ (by omega)
                        obtain ⟨gx', cx', ex, hbx, -, -, ax1, ax2, hsx⟩ := own_at2 HX.out hIx
                        simp only [Value.slice.injEq, Option.some.injEq, Addr.mk.injEq, and_true, true_and] at ex
                        obtain ⟨rfl, rfl⟩ := ex
                        have km0 := (KM.out.cell 0).trans rfl
                        have km2 := (KM.out.cell 2).trans rfl
                        have HSX := Lib.hid hsx
                        rw [HXI.out] at ax1
                        clear hsx
                        have hgl := hadl
                        go_still_tail 9, (by kernel_rfl)
                        repeat still_step
                        try refine wpStill_nil ?_
                        change wpList _ _ _ _ _ (World.drew _)
                        go_wp2_with fail
                        obtain ⟨W5, hW5⟩ : ∃ W5, (Wp.setCell ⟨gx, I, none⟩ (.int .i64 (xi - q))).drew = W5 := ⟨_, rfl⟩
                        have HX5 : Hid (W5.ownsRow w.heap.size 2 1 (.slice (some ⟨gx, 0, none⟩) j cx) j (nums (x.set I (xi - q)))) := Lib.hid (by rw [← hW5]; exact (HSX.out (xi - q)).drew)
                        have HY5 : Hid (W5.ownsRow W1.heap.size 2 1 (.slice (some ⟨gy, 0, none⟩) k cy) k (nums y)) := Lib.hid (by rw [← hW5]; exact (ownsRow_setCell_other HY.out (by simp [Value.ownBlock]; exact fun e => hgxy e.symm) _).drew)
                        have HLR5 : Hid (W5.ownsRow W2.heap.size 63 3 (.slice (some ad) nl cl) nl (triCells L)) := Lib.hid (by rw [← hW5]; exact (ownsRow_setCell_other HLR.out (fun e => by have e := Option.some.inj e; have e : ad.block = gx := e; omega) _).drew)
                        have HB5 : Hid (Below w.heap.size w W5) := Lib.hid (by rw [← hW5]; exact (HB.out.setCell hbx _).drew)
                        have KM5 : Hid (Blk W5 wr.heap.size 63 #[.int .i64 I, .int .i64 J, .int .i64 q]) := Lib.hid (by rw [← hW5]; exact (KM.out.far (by show wr.heap.size ≠ gx; omega) _).drew)
                        have hz5 : W3.heap.size ≤ W5.heap.size := by rw [← hW5]; simpa [World.setCell] using hzp
                        (try rw [hW5])
                        clear hW5 HX HY HLR HB KM HSX ax1 ax2 km0 km2 hbx hzp
                        as_aux_lemma =>
                          obtain ⟨gy', cy', ey, hby, -, -, ay1, ay2, hsy⟩ := own_at2 HY5.out hJy
                          simp only [Value.slice.injEq, Option.some.injEq, Addr.mk.injEq, and_true, true_and] at ey
                          obtain ⟨rfl, rfl⟩ := ey
                          have km1 := (KM5.out.cell 1).trans rfl
                          have km2 := (KM5.out.cell 2).trans rfl
                          have HSY := Lib.hid hsy
                          rw [HYJ.out] at ay1
                          clear hsy
                          go_still_tail 9, (by kernel_rfl)
                          repeat still_step
                          try refine wpStill_nil ?_
                          change wpList _ _ _ _ _ (World.drew _)
                          go_upto_region 33 with fail
                          obtain ⟨W6, hW6⟩ : ∃ W6, (W5.setCell ⟨gy, J, none⟩ (.int .i64 (yj - q))).drew = W6 := ⟨_, rfl⟩
                          have HY6 : Hid (W6.ownsRow W1.heap.size 2 1 (.slice (some ⟨gy, 0, none⟩) k cy) k (nums (y.set J (yj - q)))) := Lib.hid (by rw [← hW6]; exact (HSY.out (yj - q)).drew)
                          have HX6 : Hid (W6.ownsRow w.heap.size 2 1 (.slice (some ⟨gx, 0, none⟩) j cx) j (nums (x.set I (xi - q)))) := Lib.hid (by rw [← hW6]; exact (ownsRow_setCell_other HX5.out (by simp [Value.ownBlock]; exact hgxy) _).drew)
                          have HLR6 : Hid (W6.ownsRow W2.heap.size 63 3 (.slice (some ad) nl cl) nl (triCells L)) := Lib.hid (by rw [← hW6]; exact (ownsRow_setCell_other HLR5.out (fun e => by have e := Option.some.inj e; have e : ad.block = gy := e; omega) _).drew)
                          have hwy : w.heap.size ≤ gy := by omega
                          have HB6 : Hid (Below w.heap.size w W6) := Lib.hid (by rw [← hW6]; exact (HB5.out.setCell hwy _).drew)
                          have KM6 : Hid (Blk W6 wr.heap.size 63 #[.int .i64 I, .int .i64 J, .int .i64 q]) := Lib.hid (by rw [← hW6]; exact (KM5.out.far (by show wr.heap.size ≠ gy; omega) _).drew)
                          have hz6 : W3.heap.size ≤ W6.heap.size := by rw [← hW6]; simpa [World.setCell] using hz5
                          (try rw [hW6])
                          clear hW6 HX5 HY5 HLR5 HB5 KM5 HSY ay1 ay2 km1 km2 hby hz5
                          as_aux_lemma =>
                            have km2 := (KM6.out.cell 2).trans rfl
                            obtain ⟨hun1, hun2⟩ := HUN.out
                            have HLN6 : Hid (Lst (x.set I (xi - q)) (y.set J (yj - q)) (d - q) (L.drop (u + 1)) (some (I, J))) := Lib.hid (by rw [← HXI.out, ← HYJ.out]; exact HLN.out)
                            have HPN : Hid (0 < u + 1 → ∃ (a b : Nat) (q : Int), some (I, J) = some (a, b) ∧ L[u + 1 - 1]? = some ((a : Int), (b : Int), q) ∧ a < j ∧ b < k) := Lib.hid (fun _ => ⟨I, J, q, rfl, by rw [show u + 1 - 1 = u by omega, List.getElem?_eq_getElem hLu, HMU.out], by omega, by omega⟩)
                            go_wp2
                            go_roundw
                            case rel => exact ⟨u + 1, x.set I (xi - q), y.set J (yj - q), d - q, some (I, J), rfl, (by first | go_num | rw [HW1.out]), HUN.out.1, by rw [List.length_set]; exact hxl, by rw [List.length_set]; exact hyl, by omega, HLN6, HPN, HX6, HY6, HLR6, HB6, hz6⟩
                            case measure => have hun := HUN.out; simp [intOf]; omega
              · obtain rfl : u = nl := by omega
                have hd0 : d = 0 := by
                  have h := HLS.out
                  rw [List.drop_eq_nil_of_le (by have := HNL.out; omega)] at h
                  exact lst_nil h
                subst hd0
                have gu : ¬ (u : Int) < (u : Int) := by omega
                clear hr3
                go_wp2_with fail
                refine (works8_any _).mono ?_
                rintro e z ⟨rfl, hb⟩
                have HB4 := Lib.hid (HB.out.trans (hb.mono HB.out.size))
                clear hb
                go_wp2
                go_ret
                exact ⟨rfl, HB4.out⟩
end Go.Proofs.Ytomncopeekegoaa
