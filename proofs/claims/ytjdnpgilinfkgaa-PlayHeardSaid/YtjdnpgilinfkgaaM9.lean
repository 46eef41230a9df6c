/-
  Which tips are valid: CheckTip of package play, and of the document.
-/
import Derived.Test.YtjdnpgilinfkgaaM7
namespace Go.Proofs.Ytjdnpgilinfkgaa
open Go.RowKit

/-- 0: a tip · 6: no elements, or too many · 2: not valid otherwise. -/
def ckTip (s : List Int) : Int := if s.length < 1 ∨ 64 < s.length then 6 else if atI s 0 ≠ 0 ∨ 4194304 < atI s (s.length - 1) ∨ srt s = false then 2 else 0
theorem srt_up {s : List Int} (h : srt s = true) : ∀ i j, i ≤ j → j < s.length → atI s i ≤ atI s j := by
  intro i j hij
  induction j with
  | zero => intro _; rw [show i = 0 by omega]; exact Int.le_refl _
  | succ j ih =>
    intro hj
    rcases Nat.eq_or_lt_of_le hij with rfl | h2
    · exact Int.le_refl _
    · have := ih (by omega) (by omega)
      have := srt_t.1 h j hj
      omega
theorem ckTip_ok {s : List Int} (h : ckTip s = 0) : Shp s := by
  unfold ckTip at h
  split at h
  · cases h
  · split at h
    · cases h
    · rename_i h1 h2
      simp only [not_or, Bool.not_eq_false, Decidable.not_not] at h1 h2
      obtain ⟨h2, h3, h4⟩ := h2
      have up := srt_up h4
      refine ⟨by omega, by omega, h2, up, fun k => ?_⟩
      rcases Nat.lt_or_ge k s.length with hk | hk
      · have := up k (s.length - 1) (by omega) (by omega); omega
      · unfold atI; rw [List.getElem?_eq_none hk]; simp
theorem ckTip_of {s : List Int} (h : Shp s) : ckTip s = 0 := by
  unfold ckTip
  have h1 := h.pos; have h2 := h.many; have h3 := h.zero; have h4 := h.top (s.length - 1)
  rw [if_neg (by omega), if_neg]
  simp only [not_or, Bool.not_eq_false, Decidable.not_not]
  exact ⟨h3, by omega, srt_t.2 (fun k hk => h.up k (k + 1) (by omega) hk)⟩

set_option maxRecDepth 100000 in
set_option maxHeartbeats 2000000 in
theorem CheckTip_any (B : Nat) (A : Option Addr) (n c : Nat) (s : List Int) (w : World) (h0 : LI w B A n s) (hB : B ≤ w.heap.size) (hl : n ≤ 9223372036854775807) :
    Calls Try.prog 18 #[.agg #[.slice A n c]] w fun e w' => e = .returned (.int .i64 (ckTip s)) ∧ Below w.heap.size w w' := by
  have HN := Lib.hid h0.1
  have H := Lib.hid (h0.more hB)
  clear h0 hB
  by_cases h1 : n < 1
  · have hr : Hid (ckTip s = 6) := Lib.hid (by unfold ckTip; rw [if_pos (.inl (by have := HN.out; omega))])
    obtain rfl : n = 0 := by omega
    go_enter Try.func18, Try.ntmps18
    go_wp2
    go_ret
    exact ⟨ret_i hr.out.symm, (Below.refl _ _).alloc (Nat.le_refl _) _⟩
  · have d1 : decide ((n : Int) < 1) = false := by simp; omega
    by_cases h2 : 64 < n
    · have hr : Hid (ckTip s = 6) := Lib.hid (by unfold ckTip; rw [if_pos (.inr (by have := HN.out; omega))])
      have d2 : decide ((64 : Int) < (n : Int)) = true := by simp; omega
      have d3 : decide ((n : Int) > 64) = true := by simp; omega
      have d4 : (64 : Int) < (n : Int) := by omega
      have d5 : ¬ (n : Int) < 1 := by omega
      go_enter Try.func18, Try.ntmps18
      go_wp2
      go_ret
      exact ⟨ret_i hr.out.symm, (Below.refl _ _).alloc (Nat.le_refl _) _⟩
    · have HR : Hid (ckTip s = if atI s 0 ≠ 0 ∨ 4194304 < atI s (n - 1) ∨ srt s = false then 2 else 0) := Lib.hid (by
        unfold ckTip; rw [if_neg (by have := HN.out; omega), ← HN.out])
      have d4 : ¬ (64 : Int) < (n : Int) := by omega
      have d5 : ¬ (n : Int) < 1 := by omega
      have hb : Below w.heap.size w (w.alloc (.cells #[.slice A n c] 24)) := (Below.refl _ _).alloc (Nat.le_refl _) _
      have HB := Lib.hid hb
      have HW := H.out.below hb (Nat.le_refl _)
      have SO := Lib.hid (isSorted_any _ A n c s _ HW hb.size (by omega))
      obtain ⟨ad, hA, hbl, y0⟩ := HW.at_ (k := 0) (by have := HN.out; omega)
      obtain ⟨ad', hA', _, y1⟩ := HW.at_ (k := n - 1) (by have := HN.out; omega)
      obtain rfl := hA
      cases hA'
      rw [← atI_eq (show 0 < s.length by have := HN.out; omega)] at y0
      rw [← atI_eq (show n - 1 < s.length by have := HN.out; omega)] at y1
      have e1 : IntKind.i64.wrap ((n : Int) - 1) = ((n - 1 : Nat) : Int) := by rw [show (n : Int) - 1 = ((n - 1 : Nat) : Int) by omega]; exact IntWalk.i64_in _ (by omega)
      have q1 : (0 : Int) < (n : Int) := by omega
      have q2 : ((n - 1 : Nat) : Int) < (n : Int) := by omega
      obtain ⟨x, hx⟩ : ∃ x, atI s 0 = x := ⟨_, rfl⟩
      obtain ⟨y, hy⟩ : ∃ y, atI s (n - 1) = y := ⟨_, rfl⟩
      obtain ⟨z, hz⟩ : ∃ z, srt s = z := ⟨_, rfl⟩
      rw [hx, hy, hz] at HR
      rw [hx] at y0
      rw [hy] at y1
      rw [hz] at SO
      rw [show ad.add 0 = ad by simp [Addr.add]] at y0
      clear hx hy hz hb HW h1 h2
      by_cases c1 : x = 0
      · subst c1
        by_cases c2 : 4194304 < y
        · have hr : Hid (ckTip s = 2) := Lib.hid (by rw [HR.out, if_pos (.inr (.inl c2))])
          clear HR
          go_enter Try.func18, Try.ntmps18
          go_wp2
          go_ret
          exact ⟨ret_i hr.out.symm, HB.out⟩
        · cases z
          all_goals
            go_enter Try.func18, Try.ntmps18
            go_wp2_with fail
            refine SO.out.mono ?_
            rintro e w1 ⟨rfl, hb1⟩
            have HB1 := Lib.hid (HB.out.trans (hb1.mono HB.out.size))
            clear hb1 y0 y1
            go_wp2
            go_ret
          · exact ⟨ret_i (by rw [HR.out, if_pos (by simp)]), HB1.out⟩
          · exact ⟨ret_i (by rw [HR.out, if_neg (by simp; omega)]), HB1.out⟩
      · have hr : Hid (ckTip s = 2) := Lib.hid (by rw [HR.out, if_pos (.inl c1)])
        have c2 : (x != 0) = true := by rw [bne_iff_ne]; exact c1
        clear HR
        go_enter Try.func18, Try.ntmps18
        go_wp2
        go_ret
        exact ⟨ret_i hr.out.symm, HB.out⟩

/-- The element k of a shape is as it should be, beside the one before it. -/
def okTip (s : List Int) (k : Nat) : Prop := (k = 0 → atI s 0 = 0) ∧ (0 < k → atI s (k - 1) ≤ atI s k) ∧ atI s k ≤ 4194304
theorem ckTip_two {s : List Int} {k : Nat} (h1 : 1 ≤ s.length) (h2 : s.length ≤ 64) (hk : k < s.length) (h : ¬ okTip s k) : ckTip s = 2 := by
  unfold ckTip
  rw [if_neg (by omega), if_pos]
  by_cases c1 : atI s 0 = 0
  · by_cases c2 : srt s = true
    · right; left
      have up := srt_up c2
      have c3 := up k (s.length - 1) (by omega) (by omega)
      have c4 := up (k - 1) k (by omega) hk
      by_cases c5 : 4194304 < atI s (s.length - 1)
      · exact c5
      · exact absurd ⟨fun _ => c1, fun _ => c4, by omega⟩ h
    · right; right; simpa using c2
  · left; exact c1
theorem ckTip_zero {s : List Int} (h1 : 1 ≤ s.length) (h2 : s.length ≤ 64) (h : ∀ k, k < s.length → okTip s k) : ckTip s = 0 := by
  unfold ckTip
  rw [if_neg (by omega), if_neg]
  simp only [not_or, Bool.not_eq_false, Decidable.not_not]
  refine ⟨(h 0 (by omega)).1 rfl, by have := (h (s.length - 1) (by omega)).2.2; omega, srt_t.2 (fun k hk => by have := (h (k + 1) hk).2.1 (by omega); simpa using this)⟩

set_option maxRecDepth 100000 in
set_option maxHeartbeats 4000000 in
theorem refCheckTip_any (B : Nat) (A : Option Addr) (n c : Nat) (s : List Int) (w : World) (h0 : LI w B A n s) (hB : B ≤ w.heap.size) (hl : n ≤ 9223372036854775807) :
    Calls Try.prog 19 #[.agg #[.slice A n c]] w fun e w' => e = .returned (.int .i64 (ckTip s)) ∧ Below w.heap.size w w' := by
  have HN := Lib.hid h0.1
  have H := Lib.hid (h0.more hB)
  clear h0 hB
  have hb : Below w.heap.size w (w.alloc (.cells #[.slice A n c] 24)) := (Below.refl _ _).alloc (Nat.le_refl _) _
  by_cases h1 : n < 1
  · have hr : Hid (ckTip s = 6) := Lib.hid (by unfold ckTip; rw [if_pos (.inl (by have := HN.out; omega))])
    obtain rfl : n = 0 := by omega
    go_enter Try.func19, Try.ntmps19
    go_wp2
    go_ret
    exact ⟨ret_i hr.out.symm, hb⟩
  · have z1 : ((n : Int) == 0) = false := by rw [beq_eq_false_iff_ne]; omega
    by_cases h2 : 64 < n
    · have hr : Hid (ckTip s = 6) := Lib.hid (by unfold ckTip; rw [if_pos (.inr (by have := HN.out; omega))])
      have d4 : (64 : Int) < (n : Int) := by omega
      go_enter Try.func19, Try.ntmps19
      go_wp2
      go_ret
      exact ⟨ret_i hr.out.symm, hb⟩
    · have d4 : ¬ (64 : Int) < (n : Int) := by omega
      have HB0 := Lib.hid hb
      have kb : Blk (w.alloc (.cells #[.slice A n c] 24)) w.heap.size 24 #[.slice A n c] := Blk.new _ _ _
      have KB := Lib.hid kb
      clear hb kb
      go_enter Try.func19, Try.ntmps19
      go_wp2
      go_loopw [4] (fun i wr => ∃ k : Nat, k ≤ n ∧ i = .int .i64 k ∧ Hid (Below w.heap.size w wr) ∧ Hid (Blk wr w.heap.size 24 #[.slice A n c]) ∧ Hid (∀ q, q < k → okTip s q)) (fun i wr => n - (intOf i).toNat)
      case atStart => exact ⟨0, Nat.zero_le _, rfl, HB0, KB, Lib.hid (fun _ h => absurd h (by omega))⟩
      case round =>
        clear HB0 KB z1 d4
        obtain ⟨k, hk, rfl, HB, KB, HV⟩ := hrel
        by_cases hlt : k < n
        · have hkx : k < s.length := by have := HN.out; omega
          have HBAD : Hid (¬ okTip s k → ckTip s = 2) := Lib.hid (ckTip_two (by have := HN.out; omega) (by have := HN.out; omega) hkx)
          have HW := H.out.below HB.out (Nat.le_refl _)
          have t0 := KB.out.one.1
          obtain ⟨ad, hA, _, y0⟩ := HW.at_ hkx
          obtain rfl := hA
          rw [← atI_eq hkx] at y0
          cases k with
          | zero =>
            rw [show ad.add 0 = ad by simp [Addr.add]] at y0
            obtain ⟨x, hx⟩ : ∃ x, atI s 0 = x := ⟨_, rfl⟩
            rw [hx] at y0
            have HX := Lib.hid hx
            clear hx HW
            have q1 : (0 : Int) < (n : Int) := by omega
            by_cases c1 : x = 0
            · subst c1
              have HOK : Hid (okTip s 0) := Lib.hid ⟨fun _ => HX.out, fun h => absurd h (by omega), by rw [HX.out]; omega⟩
              go_wp2_with fail
              go_quiet (fail)
              go_wp2
              go_roundw
              case rel => exact ⟨1, by omega, by go_num, Lib.hid (below_drewN_ HB.out _), KB, Lib.hid (fun q hq => by rw [show q = 0 by omega]; exact HOK.out)⟩
              case measure => simp [intOf] <;> omega
            · have c2 : (x != 0) = true := by rw [bne_iff_ne]; exact c1
              have c3 : (x == 0) = false := beq_eq_false_iff_ne.2 c1
              have HR : Hid (ckTip s = 2) := Lib.hid (HBAD.out (fun h => c1 (HX.out ▸ h.1 rfl)))
              clear c1
              go_wp2_with fail
              go_quiet (fail)
              go_wp2
              go_ret
              exact ⟨ret_i HR.out.symm, below_drewN_ HB.out _⟩
          | succ j =>
            have hjx : j < s.length := by omega
            obtain ⟨ad', hA', _, y1⟩ := HW.at_ hjx
            cases hA'
            rw [← atI_eq hjx] at y1
            obtain ⟨x, hx⟩ : ∃ x, atI s (j + 1) = x := ⟨_, rfl⟩
            obtain ⟨y, hy⟩ : ∃ y, atI s j = y := ⟨_, rfl⟩
            rw [hx] at y0
            rw [hy] at y1
            have y0 : wr.cell? ⟨ad.block, ad.off + (j + 1), none⟩ = some (.int .i64 x) := by simpa [Addr.add] using y0
            have HX := Lib.hid (And.intro hx hy)
            clear hx hy HW
            have q1 : (j : Int) + 1 < (n : Int) := by omega
            have q2 : (j : Int) < (n : Int) := by omega
            have q3 : (0 : Int) < (j : Int) + 1 := by omega
            have q4 : (((j : Int) + 1) == 0) = false := by rw [beq_eq_false_iff_ne]; omega
            have e1 : IntKind.i64.wrap ((j : Int) + 1 - 1) = (j : Int) := by rw [show (j : Int) + 1 - 1 = j by omega]; exact IntWalk.i64_in _ (by omega)
            by_cases c1 : x < y
            · have c2 : decide (x < y) = true := by simpa using c1
              have HR : Hid (ckTip s = 2) := Lib.hid (HBAD.out (fun h => by have := h.2.1 (by omega); have h1 := HX.out; simp only [Nat.add_sub_cancel] at this; omega))
              go_wp2_with fail
              go_quiet (fail)
              go_wp2
              go_ret
              exact ⟨ret_i HR.out.symm, below_drewN_ HB.out _⟩
            · have c2 : decide (x < y) = false := by simpa using c1
              by_cases c3 : 4194304 < x
              · have c4 : decide (4194304 < x) = true := by simpa using c3
                have HR : Hid (ckTip s = 2) := Lib.hid (HBAD.out (fun h => by have := h.2.2; have h1 := HX.out; omega))
                go_wp2_with fail
                go_quiet (fail)
                go_wp2
                go_ret
                exact ⟨ret_i HR.out.symm, below_drewN_ HB.out _⟩
              · have c4 : decide (4194304 < x) = false := by simpa using c3
                have HOK : Hid (okTip s (j + 1)) := Lib.hid ⟨fun h => absurd h (by omega), fun _ => by have h1 := HX.out; simp only [Nat.add_sub_cancel]; omega, by have h1 := HX.out; omega⟩
                go_wp2_with fail
                go_quiet (fail)
                go_wp2
                go_roundw
                case rel => exact ⟨j + 1 + 1, by omega, by go_num, Lib.hid (below_drewN_ HB.out _), KB, Lib.hid (fun q hq => by
                  rcases Nat.lt_or_ge q (j + 1) with h | h
                  · exact HV.out q h
                  · rw [show q = j + 1 by omega]; exact HOK.out)⟩
                case measure => simp [intOf] <;> omega
        · have hr : Hid (ckTip s = 0) := Lib.hid (ckTip_zero (by have := HN.out; omega) (by have := HN.out; omega) (fun q hq => HV.out q (by have := HN.out; omega)))
          go_wp2
          go_ret
          exact ⟨ret_i hr.out.symm, HB.out⟩
end Go.Proofs.Ytjdnpgilinfkgaa
