/-
  The document's Mounts.
-/
import Derived.Test.YtomncopeekegoaaIH
namespace Go.Proofs.Ytomncopeekegoaa
open Go.RowKit

set_option maxRecDepth 100000 in
set_option maxHeartbeats 16000000 in
theorem refMounts_any (B : Nat) (A A' : Option Addr) (n c n' c' : Nat) (x0 y0 : List Int) (d0 : Int) (w : World) (h0 : LI w B A n x0) (h1 : LI w B A' n' y0) (hB : B ≤ w.heap.size) (hn : n ≤ 9223372036854775807) (hn' : n' ≤ 9223372036854775807) :
    Calls Try.prog 32 #[.slice A n c, .slice A' n' c', .int .i64 d0] w (MtPost w x0 y0 d0) := by
  have H := Lib.hid (h0.more hB)
  have H' := Lib.hid (h1.more hB)
  have HN := Lib.hid h0.1
  have HN' := Lib.hid h1.1
  have HML : Hid (mtL x0 y0 d0 = if mtE x0 y0 d0 = 0 then mnt (d0.toNat + x0.length + y0.length) x0 y0 0 0 d0 else []) := Lib.hid rfl
  have HPOST : Hid (∀ (er : Int) (w' : World), mtE x0 y0 d0 = er → ¬ er = 0 → Below w.heap.size w w' → MtPost w x0 y0 d0 (.returned (.tuple #[.slice none 0 0, .int .i64 er])) w') := Lib.hid (fun er w' he hne hb =>
    ⟨none, 0, 0, by rw [he], by rw [HML.out, he, if_neg hne]; exact RT3.none_, Nat.le_refl _, hb⟩)
  have HCK : Hid (ckSt x0 y0 = if 64 < n ∨ 64 < n' then 6 else if lvW x0 = true then (if lvW y0 = true then 0 else 2) else 2) := Lib.hid (by
    unfold ckSt; rw [← HN.out, ← HN'.out]
    split
    · rfl
    · cases hva : lvW x0 <;> cases hvb : lvW y0 <;> simp [orL, ckLv, hva, hvb])
  have HME : Hid (∀ ck, ckSt x0 y0 = ck → mtE x0 y0 d0 = if ck = 0 then (if win d0 0 1073741824 = true then (if min x0.sum y0.sum < d0 then 15 else 0) else 3) else ck) := Lib.hid (fun ck h => by unfold mtE; rw [h])
  clear h0 h1 hB
  by_cases c1 : 64 < n
  · have HE : Hid (mtE x0 y0 d0 = 6) := Lib.hid (by rw [HME.out 6 (by rw [HCK.out, if_pos (.inl c1)])]; rfl)
    have g1 : (64 : Int) < (n : Int) := by omega
    go_enter Try.func32, Try.ntmps32
    go_wp2
    go_ret2
    exact HPOST.out 6 _ HE.out (by omega) (Below.refl _ _)
  by_cases c2 : 64 < n'
  · have HE : Hid (mtE x0 y0 d0 = 6) := Lib.hid (by rw [HME.out 6 (by rw [HCK.out, if_pos (.inr c2)])]; rfl)
    have g1 : ¬ (64 : Int) < (n : Int) := by omega
    have g2 : (64 : Int) < (n' : Int) := by omega
    go_enter Try.func32, Try.ntmps32
    go_wp2
    go_ret2
    exact HPOST.out 6 _ HE.out (by omega) (Below.refl _ _)
  have g1 : ¬ (64 : Int) < (n : Int) := by omega
  have g2 : ¬ (64 : Int) < (n' : Int) := by omega
  have HC2 : Hid (lvW x0 = false ∨ lvW y0 = false → mtE x0 y0 d0 = 2) := Lib.hid (fun h => by
    rw [HME.out 2 (by rw [HCK.out, if_neg (by omega)]; rcases h with h | h <;> rw [h] <;> simp)]; rfl)
  go_enter Try.func32, Try.ntmps32
  go_wp2
  go_loop [8, 10] (fun s z => ∃ k : Nat, k ≤ n ∧ z = .int .i64 k ∧ s = .int .i64 (x0.take k).sum ∧ Hid (lvW (x0.take k) = true)) (fun _ z => n - (intOf z).toNat)
  case atStart => exact ⟨0, Nat.zero_le _, rfl, rfl, Lib.hid rfl⟩
  case round =>
    obtain ⟨k, hk, rfl, rfl, HV⟩ := hrel
    by_cases hlt : k < n
    · have hkl : k < x0.length := by have := HN.out; omega
      obtain ⟨ad, hA, hbl, c1⟩ := H.out.at_ hkl
      have HT := Lib.hid (lvW_take hkl)
      have HF := Lib.hid (lvW_false hkl)
      have ht := sum_take hkl
      have hb := fun (hv : lvW (x0.take (k + 1)) = true) => sum_bd (l := x0.take (k + 1)) (M := 65536) (lvW_bd hv)
      have hln : (x0.take (k + 1)).length ≤ 64 := by rw [List.length_take]; omega
      obtain ⟨x, hx⟩ : ∃ x, x0[k] = x := ⟨_, rfl⟩
      rw [hx] at c1 HT HF ht
      obtain ⟨s, hs⟩ : ∃ s, (x0.take k).sum = s := ⟨_, rfl⟩
      rw [hs] at ht
      rw [hs]
      obtain rfl := hA
      have g1 : (k : Int) < (n : Int) := by omega
      have e2 : IntKind.i64.wrap ((k : Int) + 1) = (k : Int) + 1 := IntWalk.i64_in _ (by omega)
      clear hx hbl hs
      cases h1 : win x 0 65536
      · have H1 := Lib.hid h1
        have HE := Lib.hid (HF.out h1)
        clear h1 hb ht hln
        go_wp2_with ((with_reducible refine (within_any _ _ _ _).mono ?_); rintro e w' ⟨rfl, rfl⟩; rw [H1.out])
        go_ret2
        exact HPOST.out 2 _ (HC2.out (.inl HE.out)) (by omega) (Below.refl _ _)
      · have H1 := Lib.hid h1
        have hvn : lvW (x0.take (k + 1)) = true := by rw [HT.out, HV.out, h1]; rfl
        have hb2 := hb hvn
        have HVN := Lib.hid hvn
        obtain ⟨s', hs'⟩ : ∃ s', (x0.take (k + 1)).sum = s' := ⟨_, rfl⟩
        rw [hs'] at hb2 ht
        have e3 : IntKind.i64.wrap (s + x) = s' := by rw [ht]; exact IntWalk.i64_in _ (by omega)
        have HS' := Lib.hid hs'
        clear h1 hb ht hln hvn hb2 hs'
        go_wp2_with ((with_reducible refine (within_any _ _ _ _).mono ?_); rintro e w' ⟨rfl, rfl⟩; rw [H1.out])
        go_round
        case rel => exact ⟨k + 1, by omega, by go_num, by rw [HS'.out], HVN⟩
        case measure => simp [intOf]; omega
    · have HVX : Hid (lvW x0 = true ∧ (x0.take k).sum = x0.sum) := Lib.hid (by
        have h := HV.out
        have he : x0.take k = x0 := List.take_of_length_le (by have := HN.out; omega)
        rw [he] at h ⊢
        exact ⟨h, rfl⟩)
      have hbx := sum_bd (lvW_bd HVX.out.1)
      have hnx : x0.length ≤ 64 := by have := HN.out; omega
      rw [HVX.out.2]
      obtain ⟨sx, hsx⟩ : ∃ sx, x0.sum = sx := ⟨_, rfl⟩
      rw [hsx] at hbx ⊢
      have HSX := Lib.hid hsx
      clear HV hsx
      go_wp2
      go_loop [9, 11] (fun s z => ∃ k : Nat, k ≤ n' ∧ z = .int .i64 k ∧ s = .int .i64 (y0.take k).sum ∧ Hid (lvW (y0.take k) = true)) (fun _ z => n' - (intOf z).toNat)
      case atStart => exact ⟨0, Nat.zero_le _, rfl, rfl, Lib.hid rfl⟩
      case round =>
        obtain ⟨k, hk, rfl, rfl, HV⟩ := hrel
        by_cases hlt : k < n'
        · have hkl : k < y0.length := by have := HN'.out; omega
          obtain ⟨ad, hA, hbl, c1⟩ := H'.out.at_ hkl
          have HT := Lib.hid (lvW_take hkl)
          have HF := Lib.hid (lvW_false hkl)
          have ht := sum_take hkl
          have hb := fun (hv : lvW (y0.take (k + 1)) = true) => sum_bd (l := y0.take (k + 1)) (M := 65536) (lvW_bd hv)
          have hln : (y0.take (k + 1)).length ≤ 64 := by rw [List.length_take]; omega
          obtain ⟨x, hx⟩ : ∃ x, y0[k] = x := ⟨_, rfl⟩
          rw [hx] at c1 HT HF ht
          obtain ⟨s, hs⟩ : ∃ s, (y0.take k).sum = s := ⟨_, rfl⟩
          rw [hs] at ht
          rw [hs]
          obtain rfl := hA
          have g1 : (k : Int) < (n' : Int) := by omega
          have e2 : IntKind.i64.wrap ((k : Int) + 1) = (k : Int) + 1 := IntWalk.i64_in _ (by omega)
          clear hx hbl hs
          cases h1 : win x 0 65536
          · have H1 := Lib.hid h1
            have HE := Lib.hid (HF.out h1)
            clear h1 hb ht hln
            go_wp2_with ((with_reducible refine (within_any _ _ _ _).mono ?_); rintro e w' ⟨rfl, rfl⟩; rw [H1.out])
            go_ret2
            exact HPOST.out 2 _ (HC2.out (.inr HE.out)) (by omega) (Below.refl _ _)
          · have H1 := Lib.hid h1
            have hvn : lvW (y0.take (k + 1)) = true := by rw [HT.out, HV.out, h1]; rfl
            have hb2 := hb hvn
            have HVN := Lib.hid hvn
            obtain ⟨s', hs'⟩ : ∃ s', (y0.take (k + 1)).sum = s' := ⟨_, rfl⟩
            rw [hs'] at hb2 ht
            have e3 : IntKind.i64.wrap (s + x) = s' := by rw [ht]; exact IntWalk.i64_in _ (by omega)
            have HS' := Lib.hid hs'
            clear h1 hb ht hln hvn hb2 hs'
            go_wp2_with ((with_reducible refine (within_any _ _ _ _).mono ?_); rintro e w' ⟨rfl, rfl⟩; rw [H1.out])
            go_round
            case rel => exact ⟨k + 1, by omega, by go_num, by rw [HS'.out], HVN⟩
            case measure => simp [intOf]; omega
        · have HVY : Hid (lvW y0 = true ∧ (y0.take k).sum = y0.sum) := Lib.hid (by
            have h := HV.out
            have he : y0.take k = y0 := List.take_of_length_le (by have := HN'.out; omega)
            rw [he] at h ⊢
            exact ⟨h, rfl⟩)
          have hby := sum_bd (lvW_bd HVY.out.1)
          have hny : y0.length ≤ 64 := by have := HN'.out; omega
          rw [HVY.out.2]
          obtain ⟨sy, hsy⟩ : ∃ sy, y0.sum = sy := ⟨_, rfl⟩
          rw [hsy] at hby ⊢
          have HSY := Lib.hid hsy
          have HM0 : Hid (mtE x0 y0 d0 = if win d0 0 1073741824 = true then (if min sx sy < d0 then 15 else 0) else 3) := Lib.hid (by
            rw [HME.out 0 (by rw [HCK.out, if_neg (by omega), if_pos HVX.out.1, if_pos HVY.out.1]), HSX.out, hsy]; rfl)
          clear HV hsy HC2 HME HCK
          cases hw : win d0 0 1073741824
          · have HE : Hid (mtE x0 y0 d0 = 3) := Lib.hid (by rw [HM0.out, hw]; rfl)
            have HW := Lib.hid hw
            clear hw
            go_wp2_with ((with_reducible refine (within_any _ _ _ _).mono ?_); rintro e w' ⟨rfl, rfl⟩; rw [HW.out])
            go_ret2
            exact HPOST.out 3 _ HE.out (by omega) (Below.refl _ _)
          have HW := Lib.hid hw
          have hdd := win_iff.1 hw
          by_cases q1 : sx < d0
          · have HE : Hid (mtE x0 y0 d0 = 15) := Lib.hid (by rw [HM0.out, hw, if_pos rfl, if_pos (by omega)])
            clear hw
            go_wp2_with ((with_reducible refine (within_any _ _ _ _).mono ?_); rintro e w' ⟨rfl, rfl⟩; rw [HW.out])
            go_ret2
            exact HPOST.out 15 _ HE.out (by omega) (Below.refl _ _)
          by_cases q2 : sy < d0
          · have HE : Hid (mtE x0 y0 d0 = 15) := Lib.hid (by rw [HM0.out, hw, if_pos rfl, if_pos (by omega)])
            clear hw
            go_wp2_with ((with_reducible refine (within_any _ _ _ _).mono ?_); rintro e w' ⟨rfl, rfl⟩; rw [HW.out])
            go_ret2
            exact HPOST.out 15 _ HE.out (by omega) (Below.refl _ _)
          have hE : mtE x0 y0 d0 = 0 := by rw [HM0.out, hw, if_pos rfl, if_neg (by omega)]
          have HME0 := Lib.hid hE
          obtain ⟨hfe, hx, hy, hd⟩ := mt_fea hE
          have HF := Lib.hid hfe
          have hd0 := hfe.d0
          obtain ⟨M, hM⟩ : ∃ M, d0.toNat + x0.length + y0.length = M := ⟨_, rfl⟩
          obtain ⟨R, hR⟩ : ∃ R, mnt M x0 y0 0 0 d0 = R := ⟨_, rfl⟩
          have HR : Hid (([] : List Tri) ++ mnt M x0 y0 0 0 d0 = R) := Lib.hid (by simpa using hR)
          have HML0 : Hid (mtL x0 y0 d0 = R) := Lib.hid (by rw [HML.out, hE, if_pos rfl, hM, hR])
          have hM2 : M ≤ 1073742000 := by omega
          have HM := Lib.hid hM
          obtain ⟨lx, hlx⟩ : ∃ lx, x0.length = lx := ⟨_, rfl⟩
          obtain ⟨ly, hly⟩ : ∃ ly, y0.length = ly := ⟨_, rfl⟩
          rw [hlx] at hx
          rw [hly] at hy
          have HX := Lib.hid hlx
          have HY := Lib.hid hly
          obtain ⟨i0, hi0, hz0, hz1, hz2⟩ := info_parts info_mnt
          have HI0 := Lib.hid hi0
          have HZ0 := Lib.hid hz0
          have HZ1 := Lib.hid hz1
          have HZ2 := Lib.hid hz2
          obtain ⟨j0, hj0, hk0, hk1, hk2⟩ := info_parts info_i64
          have HJ0 := Lib.hid hj0
          have HK0 := Lib.hid hk0
          have HK1 := Lib.hid hk1
          have HK2 := Lib.hid hk2
          have n64 : n ≤ 64 := by omega
          have n64' : n' ≤ 64 := by omega
          clear hw hfe hE hR hM hlx hly hi0 hz0 hz1 hz2 hj0 hk0 hk1 hk2 hnx hny hbx hby HVX HVY HSX HSY HM0 HML HPOST
          go_wp2_with (first | ((with_reducible refine (within_any _ _ _ _).mono ?_); rintro e w_ ⟨rfl, rfl⟩; rw [HW.out]) | (at_builtin; refine wpList_append_any _ rfl (.tmp 73) (.tmp 74) _ rfl w.heap.size 2 j0 _ 1 8 Try.underlying37 HJ0.out HK0.out HK1.out HK2.out rfl (by omega) _ 0 [] rfl (own_lit w _ w.heap.size 0 1 #[] (Nat.le_refl _) rfl (by simp [maxLen])) w.heap.size A n c (nums x0) rfl (H.out.below (below_a _ _) (Nat.le_refl _)).2 (by intro x hx; simp only [nums, List.mem_map] at hx; obtain ⟨y, -, rfl⟩ := hx; rfl) (by simp only [maxLen]; omega) (by omega) (by first | (simp; done) | (simp; omega)) ?_))
          intro va w4 hva hga hba
          have hb4 : Below w.heap.size w w4 := (below_a w (.cells #[] 2)).grown hga (by simp) (fun g hg => by simp [Value.ownBlock] at hg; omega)
          have HA4 : Hid (w4.ownsRow w.heap.size 2 1 va n (nums x0)) := Lib.hid (by simpa using hva)
          have HB4 := Lib.hid hb4
          have hs4 := hb4.size
          clear hva hga hba hb4
          go_wp2_with (at_builtin; refine wpList_append_any _ rfl (.tmp 76) (.tmp 77) _ rfl w.heap.size 2 j0 _ 1 8 Try.underlying37 HJ0.out HK0.out HK1.out HK2.out rfl (by omega) _ 0 [] rfl (own_lit w4 _ w.heap.size 0 1 #[] hs4 rfl (by simp [maxLen])) w.heap.size A' n' c' (nums y0) rfl (H'.out.below (HB4.out.alloc hs4 _) (Nat.le_refl _)).2 (by intro x hx; simp only [nums, List.mem_map] at hx; obtain ⟨y, -, rfl⟩ := hx; rfl) (by simp only [maxLen]; omega) (by omega) (by first | (simp; done) | (simp; omega)) ?_)
          intro vb W hvb hgb hbb
          have HB : Hid (W.ownsRow w.heap.size 2 1 vb n' (nums y0)) := Lib.hid (by simpa using hvb)
          have HA : Hid (W.ownsRow w.heap.size 2 1 va n (nums x0)) := Lib.hid ((HA4.out.alloc _).kept hgb (.inr (fun e => by have h := (HA4.out.lt w4.heap.size (by rw [e]; rfl)).2; omega)))
          have HBW : Hid (Below w.heap.size w W) := Lib.hid ((HB4.out.alloc hs4 _).grown hgb (by simp; omega) (fun g hg => by simp [Value.ownBlock] at hg; omega))
          have HAP : Hid (Apart va vb) := Lib.hid (fun g hg hg2 => by
            have h1 := (HA4.out.lt g hg).2
            rcases hbb with h | h
            · rw [h] at hg2; simp [Value.ownBlock] at hg2; omega
            · rw [h] at hg2; simp at hg2; omega)
          have HLA := Lib.hid (fun g (hg : va.ownBlock = some g) => (HA.out.lt g hg).2)
          have HLB := Lib.hid (fun g (hg : vb.ownBlock = some g) => (HB.out.lt g hg).2)
          have hsW := HBW.out.size
          obtain ⟨na, hna⟩ : ∃ na, n = na := ⟨_, rfl⟩
          obtain ⟨nb, hnb⟩ : ∃ nb, n' = nb := ⟨_, rfl⟩
          rw [hna] at HA
          rw [hnb] at HB
          clear hvb hgb hbb HA4 HB4 hna hnb
          go_wp2
          go_loopw [2, 14, 15, 16] (fun dv lv iv jv wr => ∃ (f : Nat) (x y : List Int) (i j : Nat) (d : Int) (acc : List Tri) (sv : Value), dv = .int .i64 d ∧ iv = .int .i64 i ∧ jv = .int .i64 j ∧ sv = lv ∧ x.length = lx ∧ y.length = ly ∧ d.toNat + (lx - i) + (ly - j) ≤ f ∧ acc.length + f ≤ M ∧ 0 ≤ d ∧ d ≤ 1073741824 ∧ Hid (Fea x y i j d) ∧ Hid (acc ++ mnt f x y i j d = R) ∧
              Hid (wr.ownsRow w.heap.size 2 1 va na (nums x)) ∧ Hid (wr.ownsRow w.heap.size 2 1 vb nb (nums y)) ∧ Hid (wr.ownsRow W.heap.size 63 3 sv acc.length (triCells acc)) ∧ Hid (Below w.heap.size w wr) ∧ W.heap.size ≤ wr.heap.size) (fun dv _ iv jv _ => (intOf dv).toNat + (lx - (intOf iv).toNat) + (ly - (intOf jv).toNat))
          case atStart => exact ⟨M, x0, y0, 0, 0, d0, [], _, rfl, rfl, rfl, rfl, HX.out, HY.out, by have := HM.out; have := HX.out; have := HY.out; omega, by simp, hd0, hd, HF, HR, HA, HB, Lib.hid (World.ownsRow_nil _ _ _ _), HBW, Nat.le_refl _⟩
          case round =>
            clear HA HB HF HR HM HX HY HBW
            obtain ⟨f, x, y, i, j, d, acc, sv, rfl, rfl, rfl, rfl, hxl, hyl, hfm, haf, hd0', hd1, HF, HR, HA, HB, HL, HBW, hsz⟩ := hrel
            by_cases hpos : 0 < d
            · have hix := HF.out.ix hpos
              have hjy := HF.out.jy hpos
              rw [hxl] at hix
              rw [hyl] at hjy
              obtain ⟨f', rfl⟩ : ∃ f', f = f' + 1 := ⟨f - 1, by omega⟩
              obtain ⟨ga, ca, rfl, hga, hga2, hna, ca1, ca2, hsa⟩ := own_at2 HA.out (show i < x.length by omega)
              obtain ⟨gb, cb, rfl, hgb, hgb2, hnb, cb1, cb2, hsb⟩ := own_at2 HB.out (show j < y.length by omega)
              have hgab : gb ≠ ga := by have := HAP.out ga rfl; intro e; rw [e] at this; exact this rfl
              have g1 : (i : Int) < (na : Int) := by omega
              have g2 : (j : Int) < (nb : Int) := by omega
              have HXL := Lib.hid hxl
              have HYL := Lib.hid hyl
              have hixx : i < x.length := by omega
              have hjyy : j < y.length := by omega
              clear hna hnb hxl hyl
              have w1 : IntKind.i64.wrap ((i : Int) + 1) = (i : Int) + 1 := IntWalk.i64_in _ (by omega)
              have w2 : IntKind.i64.wrap ((j : Int) + 1) = (j : Int) + 1 := IntWalk.i64_in _ (by omega)
              by_cases hxz : x.getD i 0 = 0
              · have HFN := Lib.hid (HF.out.a hpos hxz)
                have HRN : Hid (acc ++ mnt f' x y (i + 1) j d = R) := Lib.hid (by rw [← mnt_a f' hpos hxz]; exact HR.out)
                rw [hxz] at ca1
                clear hxz
                go_wp2
                go_roundw
                case rel => exact ⟨f', x, y, i + 1, j, d, acc, _, rfl, by go_num, rfl, rfl, HXL.out, HYL.out, by omega, by omega, hd0', hd1, HFN, HRN, HA, HB, HL, HBW, hsz⟩
                case measure => simp [intOf]; omega
              · have HXZ := Lib.hid hxz
                obtain ⟨xi, hxi⟩ : ∃ xi, x.getD i 0 = xi := ⟨_, rfl⟩
                have q1 : ¬ xi = 0 := hxi ▸ hxz
                have q1' : (xi == 0) = false := beq_eq_false_iff_ne.2 q1
                by_cases hyz : y.getD j 0 = 0
                · have HFN := Lib.hid (HF.out.b hpos hyz)
                  have HRN : Hid (acc ++ mnt f' x y i (j + 1) d = R) := Lib.hid (by rw [← mnt_b f' hpos hxz hyz]; exact HR.out)
                  rw [hyz] at cb1
                  rw [hxi] at ca1
                  clear hyz hxz hxi
                  go_wp2
                  go_roundw
                  case rel => exact ⟨f', x, y, i, j + 1, d, acc, _, rfl, rfl, by go_num, rfl, HXL.out, HYL.out, by omega, by omega, hd0', hd1, HFN, HRN, HA, HB, HL, HBW, hsz⟩
                  case measure => simp [intOf]; omega
                · have hm := mny_bd HF.out hpos hxz hyz
                  have HFN := Lib.hid (HF.out.c hpos hxz hyz)
                  have hrn := HR.out
                  rw [mnt_c f' hpos hxz hyz] at hrn
                  have hmd : min (min (x.getD i 0) (y.getD j 0)) d = mny x y i j d := rfl
                  obtain ⟨m, hmm⟩ : ∃ m, mny x y i j d = m := ⟨_, rfl⟩
                  rw [hmm] at hm HFN hrn hmd
                  obtain ⟨yj, hyj⟩ : ∃ yj, y.getD j 0 = yj := ⟨_, rfl⟩
                  have q2 : ¬ yj = 0 := hyj ▸ hyz
                  have q2' : (yj == 0) = false := beq_eq_false_iff_ne.2 q2
                  rw [hxi, hyj] at hm HFN hrn hmd
                  rw [hxi] at ca1
                  rw [hyj] at cb1
                  have HRN := Lib.hid hrn
                  have HSA := Lib.hid hsa
                  have HSB := Lib.hid hsb
                  have w3 : IntKind.i64.wrap (xi - m) = xi - m := IntWalk.i64_in _ (by omega)
                  have w4 : IntKind.i64.wrap (yj - m) = yj - m := IntWalk.i64_in _ (by omega)
                  have w5 : IntKind.i64.wrap (d - m) = d - m := IntWalk.i64_in _ (by omega)
                  have w6 : (if d < if yj < xi then yj else xi then d else if yj < xi then yj else xi) = m := by rw [← hmd]; by_cases a1 : yj < xi <;> simp only [a1, if_true, if_false] <;> split <;> omega
                  have hxi_ := hxi
                  have hyj_ := hyj
                  clear hrn hmm hyz hxz hsa hsb hmd hxi hyj
                  have HXI := Lib.hid hxi_
                  have HYJ := Lib.hid hyj_
                  clear hxi_ hyj_
                  go_wp2_with fail
                  go_quiet (fail)
                  go_wp2_with (at_builtin; refine wpList_append_own _ rfl (.tmp 105) (.tmp 110) _ rfl W.heap.size 63 i0 _ 3 24 Try.underlying59 HI0.out HZ0.out HZ1.out HZ2.out rfl (by omega) _ acc.length (triCells acc) rfl (HL.out.drewN_ _ |>.alloc _) ⟨wr.heap.size, 0, none⟩ 1 1 [.int .i64 i, .int .i64 j, .int .i64 m] rfl rfl (nine_new _ _ _) ?c1 ?c2 ?c3 ?c4 ?_)
                  case c1 => first | rfl | (intro x hx; simp at hx; rcases hx with rfl | rfl | rfl <;> rfl)
                  case c2 => simp only [maxLen]; omega
                  case c3 => omega
                  case c4 => first | omega | (simp; omega)
                  intro v' w4 hown' hgrow hblk
                  have hal := HLA.out ga rfl
                  have hbl := HLB.out gb rfl
                  have hlr := fun g (hg : sv.ownBlock = some g) => (HL.out.lt g hg).1
                  have HA4 := Lib.hid (((HA.out.drewN_ nq).alloc (.cells #[.int .i64 i, .int .i64 j, .int .i64 m] 63)).kept hgrow (.inr (fun e => by have := hlr ga (by rw [← e]; rfl); omega)))
                  have HB4 := Lib.hid (((HB.out.drewN_ nq).alloc (.cells #[.int .i64 i, .int .i64 j, .int .i64 m] 63)).kept hgrow (.inr (fun e => by have := hlr gb (by rw [← e]; rfl); omega)))
                  have hown5 : w4.ownsRow W.heap.size 63 3 v' (acc ++ [((i : Int), (j : Int), m)]).length (triCells (acc ++ [((i : Int), (j : Int), m)])) := by
                    rw [triCells_snoc, List.length_append]; exact hown'
                  have hb4 : Below w.heap.size w w4 := ((below_drewN_ HBW.out nq).alloc (by show w.heap.size ≤ wr.heap.size; omega) (.cells #[.int .i64 i, .int .i64 j, .int .i64 m] 63)).grown hgrow (by simp; show w.heap.size ≤ wr.heap.size + 1; omega) (fun g hg => by have := hlr g hg; omega)
                  have hs4 : W.heap.size ≤ w4.heap.size := by have := hgrow.size; simp at this; omega
                  have hvl : ∀ g, v'.ownBlock = some g → W.heap.size ≤ g := fun g hg => (hown5.lt g hg).1
                  have hrn : (acc ++ [((i : Int), (j : Int), m)]) ++ mnt f' (x.set i (xi - m)) (y.set j (yj - m)) i j (d - m) = R := by rw [List.append_assoc]; exact HRN.out
                  obtain ⟨ga', ca', ea, -, hga4, -, ca3, ca4, hsa4⟩ := own_at2 HA4.out hixx
                  simp only [Value.slice.injEq, Option.some.injEq, Addr.mk.injEq, and_true, true_and] at ea
                  obtain ⟨rfl, rfl⟩ := ea
                  have hsA := hsa4 (xi - m)
                  obtain ⟨W5, hW5⟩ : ∃ W5, w4.setCell ⟨ga, i, none⟩ (.int .i64 (xi - m)) = W5 := ⟨_, rfl⟩
                  have HB5 : W5.ownsRow w.heap.size 2 1 (.slice (some ⟨gb, 0, none⟩) nb cb) nb (nums y) := by rw [← hW5]; exact ownsRow_setCell_other HB4.out (by simp [Value.ownBlock]; exact hgab) _
                  rw [hW5] at hsA
                  obtain ⟨gb', cb', eb, -, hgb4, -, cb3, cb4, hsb4⟩ := own_at2 HB5 hjyy
                  simp only [Value.slice.injEq, Option.some.injEq, Addr.mk.injEq, and_true, true_and] at eb
                  obtain ⟨rfl, rfl⟩ := eb
                  have hsB := hsb4 (yj - m)
                  have HA6 := Lib.hid (ownsRow_setCell_other hsA (a := ⟨gb, j, none⟩) (by simp [Value.ownBlock]; exact fun e => hgab e.symm) (.int .i64 (yj - m)))
                  have hL5 : W5.ownsRow W.heap.size 63 3 v' (acc ++ [((i : Int), (j : Int), m)]).length (triCells (acc ++ [((i : Int), (j : Int), m)])) := by rw [← hW5]; exact ownsRow_setCell_other hown5 (fun e => by have := hvl _ e; dsimp only at this; omega) _
                  have HL6 := Lib.hid (ownsRow_setCell_other hL5 (a := ⟨gb, j, none⟩) (fun e => by have := hvl _ e; dsimp only at this; omega) (.int .i64 (yj - m)))
                  have hb5 : Below w.heap.size w W5 := by rw [← hW5]; exact hb4.setCell (p := ⟨ga, i, none⟩) hga _
                  have HB6 := Lib.hid hsB
                  have HBW6 := Lib.hid (hb5.setCell (p := ⟨gb, j, none⟩) hgb (.int .i64 (yj - m)))
                  have hs5 : W.heap.size ≤ W5.heap.size := by rw [← hW5]; simpa [World.setCell] using hs4
                  rw [HXI.out] at ca3
                  rw [HYJ.out] at cb3
                  have HRN' := Lib.hid hrn
                  clear hrn hown' hown5 hgrow hblk hsa4 hsA hsb4 hsB hL5 hb4 hb5 HB5 HA4 HB4 hvl hlr
                  have cb5 : (w4.setCell ⟨ga, i, none⟩ (.int .i64 (xi - m))).cell? ⟨gb, j, none⟩ = some (.int .i64 yj) := by rw [hW5]; exact cb3
                  have cb6 : (w4.setCell ⟨ga, i, none⟩ (.int .i64 (xi - m))).frozen? ⟨gb, j, none⟩ = false := by rw [hW5]; exact cb4
                  have cb7 : w4.cell? ⟨gb, j, none⟩ = some (.int .i64 yj) := by rw [← cb5]; exact (World.cell?_setCell_other _ _ _ _ (by simp)).symm
                  have cb8 : w4.frozen? ⟨gb, j, none⟩ = false := by rw [← cb6]; exact (World.frozen?_setCell _ _ _ _).symm
                  have HW5 := Lib.hid hW5
                  clear hW5 cb3 cb4
                  go_wp2
                  go_roundw
                  case rel => exact ⟨f', x.set i (xi - m), y.set j (yj - m), i, j, d - m, acc ++ [((i : Int), (j : Int), m)], _, rfl, rfl, rfl, rfl, by rw [List.length_set]; exact HXL.out, by rw [List.length_set]; exact HYL.out, by omega, by simp; omega, by omega, by omega, HFN, HRN', by rw [HW5.out]; exact HA6, by rw [HW5.out]; exact HB6, by rw [HW5.out]; exact HL6, by rw [HW5.out]; exact HBW6, by rw [HW5.out]; simpa [World.setCell] using hs5⟩
                  case measure => simp [intOf]; omega
            · have hz : d ≤ 0 := by omega
              have HE : Hid (acc = R) := Lib.hid (by have := HR.out; rw [mnt_end f x y i j hz] at this; simpa using this)
              obtain ⟨Ar, cr, rfl, hr, hcr⟩ := rt3_own HL.out
              have HRR : Hid (RT3 wr wr.heap.size Ar acc.length R) := Lib.hid (by rw [← HE.out]; exact hr)
              have HLEN := Lib.hid (congrArg List.length HE.out)
              clear hr
              go_wp2
              go_ret2
              exact ⟨Ar, acc.length, cr, by rw [HME0.out]; rfl, by rw [HML0.out]; exact HRR.out, hcr, HBW.out⟩
end Go.Proofs.Ytomncopeekegoaa
