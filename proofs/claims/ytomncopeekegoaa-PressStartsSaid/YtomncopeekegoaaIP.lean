/-
  The document's boiler, busy and Starts.
-/
import Derived.Test.YtomncopeekegoaaIL
import Derived.LoopN
namespace Go.Proofs.Ytomncopeekegoaa
open Go.RowKit

theorem ckH_eq (p b st rs n : Int) : ckH p b st rs n = if p < 1 ∨ 64 < p ∨ b < 1 ∨ 64 < b ∨ win st 1 65536 = false ∨ win rs 1 65536 = false then 3 else if n < 0 ∨ 1000 < n then 6 else 0 := by
  unfold ckH
  by_cases h : p < 1 ∨ 64 < p ∨ b < 1 ∨ 64 < b ∨ win st 1 65536 = false ∨ win rs 1 65536 = false
  · rw [if_pos h, if_neg]
    simp only [Bool.and_eq_true, win_iff]
    rintro ⟨⟨⟨h1, h2⟩, h3⟩, h4⟩
    rcases h with h | h | h | h | h | h
    · omega
    · omega
    · omega
    · omega
    · have := win_not.1 h; omega
    · have := win_not.1 h; omega
  · rw [if_neg h, if_pos]
    · by_cases h2 : n < 0 ∨ 1000 < n
      · rw [if_pos h2, if_neg]; rw [win_iff]; omega
      · rw [if_neg h2, if_pos]; rw [win_iff]; omega
    · simp only [Bool.and_eq_true]
      refine ⟨⟨⟨win_iff.2 (by omega), win_iff.2 (by omega)⟩, ?_⟩, ?_⟩
      · cases hw : win st 1 65536
        · exact absurd (.inr (.inr (.inr (.inr (.inl hw))))) h
        · rfl
      · cases hw : win rs 1 65536
        · exact absurd (.inr (.inr (.inr (.inr (.inr hw))))) h
        · rfl
set_option maxRecDepth 100000 in
set_option maxHeartbeats 4000000 in
theorem boiler_any (p b st rs n : Int) (w : World) :
    Calls Try.prog 60 #[.int .i64 p, .int .i64 b, .int .i64 st, .int .i64 rs, .int .i64 n] w fun e w' => e = .returned (.int .i64 (ckH p b st rs n)) ∧ w = w' := by
  have HE := Lib.hid (ckH_eq p b st rs n)
  by_cases h1 : p < 1
  · have HR : Hid (ckH p b st rs n = 3) := Lib.hid (by rw [HE.out, if_pos (.inl h1)])
    go_enter Try.func60, Try.ntmps60
    go_wp2
    go_ret
    exact ⟨ret_i HR.out.symm, rfl⟩
  by_cases h2 : 64 < p
  · have HR : Hid (ckH p b st rs n = 3) := Lib.hid (by rw [HE.out, if_pos (.inr (.inl h2))])
    go_enter Try.func60, Try.ntmps60
    go_wp2
    go_ret
    exact ⟨ret_i HR.out.symm, rfl⟩
  by_cases h3 : b < 1
  · have HR : Hid (ckH p b st rs n = 3) := Lib.hid (by rw [HE.out, if_pos (.inr (.inr (.inl h3)))])
    go_enter Try.func60, Try.ntmps60
    go_wp2
    go_ret
    exact ⟨ret_i HR.out.symm, rfl⟩
  by_cases h4 : 64 < b
  · have HR : Hid (ckH p b st rs n = 3) := Lib.hid (by rw [HE.out, if_pos (.inr (.inr (.inr (.inl h4))))])
    go_enter Try.func60, Try.ntmps60
    go_wp2
    go_ret
    exact ⟨ret_i HR.out.symm, rfl⟩
  cases h5 : win st 1 65536
  · have HR : Hid (ckH p b st rs n = 3) := Lib.hid (by rw [HE.out, if_pos (.inr (.inr (.inr (.inr (.inl h5)))))])
    have H5 := Lib.hid h5
    clear h5
    go_enter Try.func60, Try.ntmps60
    go_wp2_with ((with_reducible refine (within_any _ _ _ _).mono ?_); rintro e w' ⟨rfl, rfl⟩; rw [H5.out])
    go_ret
    exact ⟨ret_i HR.out.symm, rfl⟩
  cases h6 : win rs 1 65536
  · have HR : Hid (ckH p b st rs n = 3) := Lib.hid (by rw [HE.out, if_pos (.inr (.inr (.inr (.inr (.inr h6)))))])
    have H5 := Lib.hid h5
    have H6 := Lib.hid h6
    clear h5 h6
    go_enter Try.func60, Try.ntmps60
    go_wp2_with ((with_reducible refine (within_any _ _ _ _).mono ?_); rintro e w' ⟨rfl, rfl⟩; first | rw [H5.out] | rw [H6.out])
    go_ret
    exact ⟨ret_i HR.out.symm, rfl⟩
  have hne : ¬ (p < 1 ∨ 64 < p ∨ b < 1 ∨ 64 < b ∨ win st 1 65536 = false ∨ win rs 1 65536 = false) := by
    rw [h5, h6]; simp; omega
  have H5 := Lib.hid h5
  have H6 := Lib.hid h6
  by_cases h7 : n < 0
  · have HR : Hid (ckH p b st rs n = 6) := Lib.hid (by rw [HE.out, if_neg hne, if_pos (.inl h7)])
    clear h5 h6 hne
    go_enter Try.func60, Try.ntmps60
    go_wp2_with ((with_reducible refine (within_any _ _ _ _).mono ?_); rintro e w' ⟨rfl, rfl⟩; first | rw [H5.out] | rw [H6.out])
    go_ret
    exact ⟨ret_i HR.out.symm, rfl⟩
  by_cases h8 : 1000 < n
  · have HR : Hid (ckH p b st rs n = 6) := Lib.hid (by rw [HE.out, if_neg hne, if_pos (.inr h8)])
    clear h5 h6 hne
    go_enter Try.func60, Try.ntmps60
    go_wp2_with ((with_reducible refine (within_any _ _ _ _).mono ?_); rintro e w' ⟨rfl, rfl⟩; first | rw [H5.out] | rw [H6.out])
    go_ret
    exact ⟨ret_i HR.out.symm, rfl⟩
  have HR : Hid (ckH p b st rs n = 0) := Lib.hid (by rw [HE.out, if_neg hne, if_neg (by omega)])
  clear h5 h6 hne
  go_enter Try.func60, Try.ntmps60
  go_wp2_with ((with_reducible refine (within_any _ _ _ _).mono ?_); rintro e w' ⟨rfl, rfl⟩; first | rw [H5.out] | rw [H6.out])
  go_ret
  exact ⟨ret_i HR.out.symm, rfl⟩

set_option maxRecDepth 100000 in
set_option maxHeartbeats 4000000 in
theorem busy_any (B : Nat) (A : Option Addr) (n c : Nat) (l : List Int) (t L : Int) (w : World) (h0 : LI w B A n l) (hn : n ≤ 1099511627776) (hl : ∀ x ∈ l, 0 ≤ x ∧ x ≤ 9223372036854775807) (ht : 0 ≤ t ∧ t ≤ 9223372036854775807) :
    Calls Try.prog 61 #[.slice A n c, .int .i64 t, .int .i64 L] w fun e w' => e = .returned (.int .i64 (bsy l t L)) ∧ w = w' := by
  have H := Lib.hid h0
  have HN := Lib.hid h0.1
  have HL := Lib.hid hl
  clear h0 hl
  go_enter Try.func61, Try.ntmps61
  go_wp2
  go_loop [7, 8] (fun s z => ∃ k : Nat, k ≤ n ∧ z = .int .i64 k ∧ s = .int .i64 (bsy (l.take k) t L)) (fun _ z => n - (intOf z).toNat)
  case atStart => exact ⟨0, Nat.zero_le _, rfl, rfl⟩
  case round =>
    obtain ⟨k, hk, rfl, rfl⟩ := hrel
    by_cases hlt : k < n
    · have hkl : k < l.length := by have := HN.out; omega
      obtain ⟨ad, hA, hbl, c1⟩ := H.out.at_ hkl
      have hx := HL.out _ (List.getElem_mem hkl)
      have hbt := bsy_take hkl t L
      have hle := bsy_le (l.take k) t L
      rw [List.length_take] at hle
      obtain ⟨x, hxx⟩ : ∃ x, l[k] = x := ⟨_, rfl⟩
      rw [hxx] at c1 hx hbt
      obtain ⟨s, hs⟩ : ∃ s, bsy (l.take k) t L = s := ⟨_, rfl⟩
      rw [hs] at hbt hle ⊢
      have HBT := Lib.hid hbt
      obtain rfl := hA
      have g1 : (k : Int) < (n : Int) := by omega
      have e2 : IntKind.i64.wrap ((k : Int) + 1) = (k : Int) + 1 := IntWalk.i64_in _ (by omega)
      have e3 : IntKind.i64.wrap ((s : Int) + 1) = (s : Int) + 1 := IntWalk.i64_in _ (by omega)
      have e4 : IntKind.i64.wrap (t - x) = t - x := IntWalk.i64_in _ (by omega)
      clear hxx hs hbl hbt hx
      by_cases hb : t - x < L
      · have HS : Hid (bsy (l.take (k + 1)) t L = s + 1) := Lib.hid (by rw [HBT.out, if_pos hb])
        go_wp2
        go_round
        case rel => exact ⟨k + 1, by omega, by go_num, by rw [HS.out]; rfl⟩
        case measure => simp [intOf]; omega
      · have HS : Hid (bsy (l.take (k + 1)) t L = s) := Lib.hid (by rw [HBT.out, if_neg hb]; rfl)
        go_wp2
        go_round
        case rel => exact ⟨k + 1, by omega, by go_num, by rw [HS.out]⟩
        case measure => simp [intOf]; omega
    · have HE : Hid (bsy (l.take k) t L = bsy l t L) := Lib.hid (by rw [List.take_of_length_le (by have := HN.out; omega)])
      rw [HE.out]
      go_wp2
      go_ret
      exact ⟨rfl, rfl⟩
end Go.Proofs.Ytomncopeekegoaa
