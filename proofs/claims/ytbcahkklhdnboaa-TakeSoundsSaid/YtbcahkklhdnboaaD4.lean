/-
  Contract of the document's CheckTakes.
-/
import Derived.Test.YtbcahkklhdnboaaD3
namespace Go.Proofs.Ytbcahkklhdnboaa
open Go.RowKit

def I64t (l : List TV) : Prop := ∀ t ∈ l, I64s t.xs

set_option maxRecDepth 100000 in
set_option maxHeartbeats 4000000 in
theorem refCheckTakes_any (B : Nat) (A : Option Addr) (n c : Nat) (l : List TV) (w : World) (h0 : RT w B A n l) (hB : B ≤ w.heap.size) (hl : n ≤ 9223372036854775807) (hs : TSm l) (hi : I64t l) :
    Calls Try.prog 17 #[.slice A n c] w fun e w' => e = .returned (.int .i64 (ckT l)) ∧ Below w.heap.size w w' := by
  have H := Lib.hid (h0.more hB)
  have HS := Lib.hid hs
  have HI := Lib.hid hi
  obtain ⟨hn, -⟩ := h0
  by_cases k1 : n < 1
  · have hr : ckT l = 6 := by unfold ckT; rw [if_pos (.inl (by omega))]
    have HR := Lib.hid hr
    clear hn hr hs hi
    go_enter Try.func17, Try.ntmps17
    go_wp2
    go_ret
    exact ⟨ret_i HR.out.symm, Below.refl _ _⟩
  by_cases k2 : 16 < n
  · have hr : ckT l = 6 := by unfold ckT; rw [if_pos (.inr (.inl (by omega)))]
    have HR := Lib.hid hr
    clear hn hr hs hi
    go_enter Try.func17, Try.ntmps17
    go_wp2
    go_ret
    exact ⟨ret_i HR.out.symm, Below.refl _ _⟩
  have hr : ckT l = if l.any pLong = true then 6 else if l.all vTake = false then 2 else if dupF l l 0 = true then 12 else 0 := by
    unfold ckT
    cases ha : l.any pLong
    · rw [if_neg (by rintro (h | h | h) <;> first | omega | cases h)]; simp
    · rw [if_pos (.inr (.inr rfl))]; simp
  have HR := Lib.hid hr
  have HN := Lib.hid hn
  clear hn hr hs hi
  go_enter Try.func17, Try.ntmps17
  go_wp2
  go_loop [3] (fun i => ∃ k : Nat, k ≤ n ∧ i = .int .i64 k ∧ Hid (l.any pLong = (l.drop k).any pLong)) (fun i => n - (intOf i).toNat)
  case atStart => exact ⟨0, Nat.zero_le _, rfl, Lib.hid rfl⟩
  case round =>
    obtain ⟨k, hk, rfl, hv⟩ := hrel
    by_cases hlt : k < n
    · have hkl : k < l.length := by have := HN.out; omega
      obtain ⟨ad, hA, hbl, h1, h2, h3⟩ := H.out.at_ hkl
      obtain rfl := hA
      have HD := Lib.hid (drop_get l k hkl)
      clear h3
      by_cases hx : 4096 < (l[k]'hkl).n
      · have hx' : (4096 : Int) < ((l[k]'hkl).n : Int) := by omega
        have HX : Hid (pLong (l[k]'hkl) = true) := Lib.hid (by unfold pLong; simpa using hx)
        go_wp2
        go_ret
        exact ⟨ret_i (by rw [HR.out, hv.out, HD.out, List.any_cons, HX.out]; rfl), Below.refl _ _⟩
      · have hx' : ¬ (4096 : Int) < ((l[k]'hkl).n : Int) := by omega
        have HX : Hid (pLong (l[k]'hkl) = false) := Lib.hid (by unfold pLong; simpa using hx)
        go_wp2
        go_round
        case rel => exact ⟨k + 1, by omega, by go_num, Lib.hid (by rw [hv.out, HD.out, List.any_cons, HX.out]; rfl)⟩
        case measure => simp [intOf]; omega
    · have hany : l.any pLong = false := by rw [hv.out, List.drop_eq_nil_of_le (by have := HN.out; omega)]; rfl
      have HANY := Lib.hid hany
      have HR2 : Hid (ckT l = if l.all vTake = false then 2 else if dupF l l 0 = true then 12 else 0) := Lib.hid (by rw [HR.out, hany]; simp)
      clear hany hv
      go_wp2
      go_loopw [4] (fun i wr => ∃ k : Nat, k ≤ n ∧ i = .int .i64 k ∧ Below w.heap.size w wr ∧ Hid (l.all vTake = (l.drop k).all vTake)) (fun i wr => n - (intOf i).toNat)
      case atStart => exact ⟨0, Nat.zero_le _, rfl, Below.refl _ _, Lib.hid rfl⟩
      case round =>
        obtain ⟨k', hk', rfl, hb, hv⟩ := hrel
        by_cases hlt' : k' < n
        · have hkl : k' < l.length := by have := HN.out; omega
          obtain ⟨ad, hA, hbl, h1, h2, h3⟩ := (H.out.below hb (Nat.le_refl _)).at_ hkl
          obtain rfl := hA
          obtain ⟨s1, s2⟩ := HS.out _ (List.getElem_mem hkl)
          have HIx := Lib.hid (HI.out _ (List.getElem_mem hkl))
          have HD := Lib.hid (drop_get l k' hkl)
          have H3 := Lib.hid h3
          have hnl : ¬ 4096 < (l[k']'hkl).n := by
            have := List.any_eq_false.1 HANY.out _ (List.getElem_mem hkl)
            simpa [pLong] using this
          have HOK := Lib.hid (rTake_ok _ hnl)
          clear h3 hnl
          cases hx : vTake (l[k']'hkl)
          · have HX := Lib.hid hx
            have hr1 : rTake (l[k']'hkl) ≠ 0 := by intro e; rw [HOK.out, hx] at e; cases e
            obtain ⟨q, hq⟩ : ∃ q, rTake (l[k']'hkl) = q := ⟨_, rfl⟩
            rw [hq] at hr1
            have hq1 : (q == 0) = false := beq_eq_false_iff_ne.2 hr1
            have hq2 : (q != 0) = true := by simpa using hr1
            have HQ := Lib.hid hq
            clear hx hq hr1
            go_wp2_with fail
            refine (refTake_any _ _ _ H3.out hb.size s1 s2 HIx.out).mono ?_
            rintro e w2 ⟨rfl, hb2⟩
            rw [HQ.out]
            have hbw : Below w.heap.size w w2 := hb.trans (hb2.mono hb.size)
            go_wp2
            go_ret
            exact ⟨ret_i (by rw [HR2.out, hv.out, HD.out, List.all_cons, HX.out]; rfl), hbw⟩
          · have HX := Lib.hid hx
            have hr1 : rTake (l[k']'hkl) = 0 := by rw [HOK.out]; exact hx
            have HQ := Lib.hid hr1
            clear hx hr1
            go_wp2_with fail
            refine (refTake_any _ _ _ H3.out hb.size s1 s2 HIx.out).mono ?_
            rintro e w2 ⟨rfl, hb2⟩
            rw [HQ.out]
            have hbw : Below w.heap.size w w2 := hb.trans (hb2.mono hb.size)
            clear hb2
            go_wp2
            go_roundw
            case rel => exact ⟨k' + 1, by omega, by go_num, hbw, Lib.hid (by rw [hv.out, HD.out, List.all_cons, HX.out]; rfl)⟩
            case measure => simp [intOf]; omega
        · have hall : l.all vTake = true := by rw [hv.out, List.drop_eq_nil_of_le (by have := HN.out; omega)]; rfl
          have HR3 : Hid (ckT l = if dupF l l 0 = true then 12 else 0) := Lib.hid (by rw [HR2.out, hall]; simp)
          clear hall hv
          obtain ⟨wo, hwo⟩ : ∃ wo : World, wo = wr := ⟨_, rfl⟩
          subst hwo
          go_wp2
          go_loopw [5] (fun i wr => ∃ k : Nat, k ≤ n ∧ i = .int .i64 k ∧ Below w.heap.size w wr ∧ Hid (dupF l l 0 = dupF l (l.drop k) k)) (fun i wr => n - (intOf i).toNat)
          case atStart => exact ⟨0, Nat.zero_le _, rfl, hb, Lib.hid rfl⟩
          case round =>
            clear hb
            obtain ⟨i, hi', rfl, hb, hv⟩ := hrel
            by_cases hlti : i < n
            · have hil : i < l.length := by have := HN.out; omega
              have HD := Lib.hid (drop_get l i hil)
              obtain ⟨wp, hwp⟩ : ∃ wp : World, wp = wr := ⟨_, rfl⟩
              subst hwp
              have hii : (i : Int) < (n : Int) := by omega
              go_wp2
              go_loopw [6] (fun j wi => ∃ x : Nat, x ≤ i ∧ j = .int .i64 x ∧ Below w.heap.size w wi ∧ Hid (∀ y (hy : y < l.length), y < x → ((l[i]'hil).nm.toList == l[y].nm.toList) = false)) (fun j wi => i - (intOf j).toNat)
              case atStart => exact ⟨0, Nat.zero_le _, rfl, hb, Lib.hid (fun y _ hy => absurd hy (by omega))⟩
              case round =>
                clear hb
                obtain ⟨x, hx, rfl, hb, hno⟩ := hrel
                by_cases hxi : x < i
                · have hxl : x < l.length := by omega
                  obtain ⟨ad, hA, hbl, h1, h2, h3⟩ := (H.out.below hb (Nat.le_refl _)).at_ hil
                  obtain ⟨ad', hA', hbl', g1, g2, g3⟩ := (H.out.below hb (Nat.le_refl _)).at_ hxl
                  obtain rfl := hA
                  obtain rfl := Option.some.inj hA'
                  have hxn : (x : Int) < (n : Int) := by omega
                  have hx0 : (0 : Int) ≤ (x : Int) := by omega
                  have hi0 : (0 : Int) ≤ (i : Int) := by omega
                  clear h3 g3 hA'
                  cases he : ((l[i]'hil).nm.toList == (l[x]'hxl).nm.toList)
                  all_goals
                    have HE := Lib.hid he
                    go_wp2
                    go_quiet (fail)
                    go_wp2
                  · go_roundw
                    case rel =>
                      refine ⟨x + 1, by omega, by go_num, below_drewN_ hb _, Lib.hid (fun y hy hyx => ?_)⟩
                      by_cases e : y = x
                      · subst e; exact HE.out
                      · exact hno.out y hy (by omega)
                    case measure => simp [intOf]; omega
                  · go_ret
                    exact ⟨ret_i (by rw [HR3.out, hv.out, HD.out, dupF, dup_yes l i x hil hxi HE.out]; rfl), below_drewN_ hb _⟩
                · have HX := Lib.hid (dup_no l i hil (fun y hy hyi => hno.out y hy (by omega)))
                  go_wp2
                  go_roundw
                  case rel => exact ⟨i + 1, by omega, by go_num, hb, Lib.hid (by rw [hv.out, HD.out, dupF, HX.out]; rfl)⟩
                  case measure => simp [intOf]; omega
            · go_wp2
              go_ret
              exact ⟨ret_i (by rw [HR3.out, hv.out, List.drop_eq_nil_of_le (by have := HN.out; omega)]; rfl), hb⟩
end Go.Proofs.Ytbcahkklhdnboaa
