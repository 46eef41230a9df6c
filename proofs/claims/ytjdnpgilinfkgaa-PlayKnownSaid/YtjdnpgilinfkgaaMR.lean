/-
  The document's both errors of a tip and a groove, and the mathematics of its read.
-/
import Derived.Test.YtjdnpgilinfkgaaMA
import Derived.Test.YtjdnpgilinfkgaaKG
namespace Go.Proofs.Ytjdnpgilinfkgaa
open Go.RowKit

set_option maxRecDepth 100000 in
set_option maxHeartbeats 1000000 in
theorem refBoth_any (B : Nat) (Af A : Option Addr) (nf cf n c : Nat) (s : List Int) (l : List Smp) (w : World) (hL : LI w B Af nf s) (h0 : RS w B A n l) (hB : B ≤ w.heap.size) (hf : nf ≤ 9223372036854775807) (hl : n ≤ 9223372036854775807) :
    Calls Try.prog 66 #[.agg #[.slice Af nf cf], .slice A n c] w fun e w' => e = .returned (.int .i64 (rdEr s l)) ∧ Below w.heap.size w w' := by
  have H := Lib.hid (h0.more hB)
  have HL := Lib.hid (hL.more hB)
  clear h0 hL hB
  have CT := Lib.hid (fun W (hb : Below w.heap.size w W) => refCheckTip_any w.heap.size Af nf cf s W (HL.out.below hb (Nat.le_refl _)) hb.size hf)
  have CG := Lib.hid (fun W (hb : Below w.heap.size w W) => refCheckPoints_any w.heap.size A n c l W (H.out.below hb (Nat.le_refl _)) hb.size hl)
  have he : rdEr s l = if ckTip s = 0 then ckG l else ckTip s := by
    unfold rdEr
    by_cases h : ckTip s = 0
    · by_cases h2 : ckG l = 0 <;> simp [orL, h, h2]
    · simp [orL, h]
  obtain ⟨e1, h1⟩ : ∃ x, ckTip s = x := ⟨_, rfl⟩
  obtain ⟨e2, h2⟩ : ∃ x, ckG l = x := ⟨_, rfl⟩
  rw [h1] at CT
  rw [h2] at CG
  rw [h1, h2] at he
  rw [he]
  clear h1 h2 he
  go_enter Try.func66, Try.ntmps66
  go_wp2_with fail
  refine (CT.out _ ((Below.refl _ _).alloc (Nat.le_refl _) _)).mono ?_
  rintro e w1 ⟨rfl, hb1⟩
  have HB := Lib.hid (((Below.refl _ w).alloc (Nat.le_refl _) (.cells #[.slice Af nf cf] 24)).trans (hb1.mono (by simp)))
  clear hb1
  by_cases hz : e1 = 0
  · subst hz
    go_wp2_with fail
    refine (CG.out _ HB.out).mono ?_
    rintro e w2 ⟨rfl, hb1⟩
    replace HB := Lib.hid (HB.out.trans (hb1.mono HB.out.size))
    clear hb1
    go_wp2
    go_ret
    exact ⟨ret_i (by simp), HB.out⟩
  · have q1 : (e1 != 0) = true := by rw [bne_iff_ne]; exact hz
    have HZ := Lib.hid hz
    clear hz
    go_wp2
    go_ret
    exact ⟨rfl, HB.out⟩

/-- What the document's read finds of a wall at i, behind u samples. -/
def rdG (s : List Int) (a : Nat → Int) (i : Nat) : Nat → Int
  | 0 => a i
  | u + 1 => if dst u i < s.length then min (rdG s a i u) (a u + atI s (dst u i)) else rdG s a i u
theorem rdG_le {s : List Int} {a : Nat → Int} {i : Nat} : ∀ {m : Nat}, rdG s a i m ≤ a i ∧ ∀ u, u < m → dst u i < s.length → rdG s a i m ≤ a u + atI s (dst u i)
  | 0 => ⟨Int.le_refl _, fun u hu => absurd hu (by omega)⟩
  | m + 1 => by
    obtain ⟨h1, h2⟩ := rdG_le (s := s) (a := a) (i := i) (m := m)
    have h3 : rdG s a i (m + 1) ≤ rdG s a i m := by show (if dst m i < s.length then min (rdG s a i m) (a m + atI s (dst m i)) else rdG s a i m) ≤ _; split <;> omega
    refine ⟨by omega, fun u hu hd => ?_⟩
    rcases Nat.lt_or_ge u m with h | h
    · have := h2 u h hd; omega
    · obtain rfl : u = m := by omega
      show (if dst u i < s.length then min (rdG s a i u) (a u + atI s (dst u i)) else rdG s a i u) ≤ _; rw [if_pos hd]; omega
theorem rdG_at {s : List Int} {a : Nat → Int} {i : Nat} : ∀ {m : Nat}, rdG s a i m = a i ∨ ∃ u, u < m ∧ dst u i < s.length ∧ rdG s a i m = a u + atI s (dst u i)
  | 0 => .inl rfl
  | m + 1 => by
    by_cases hd : dst m i < s.length
    · have e : rdG s a i (m + 1) = min (rdG s a i m) (a m + atI s (dst m i)) := if_pos hd
      rw [e]
      rcases Int.le_total (rdG s a i m) (a m + atI s (dst m i)) with h | h
      · rw [show min (rdG s a i m) (a m + atI s (dst m i)) = rdG s a i m by omega]
        rcases rdG_at (s := s) (a := a) (i := i) (m := m) with h1 | ⟨u, h1, h2, h3⟩
        · exact .inl h1
        · exact .inr ⟨u, by omega, h2, h3⟩
      · exact .inr ⟨m, by omega, hd, by omega⟩
    · have e : rdG s a i (m + 1) = rdG s a i m := if_neg hd
      rw [e]
      rcases rdG_at (s := s) (a := a) (i := i) (m := m) with h1 | ⟨u, h1, h2, h3⟩
      · exact .inl h1
      · exact .inr ⟨u, by omega, h2, h3⟩
theorem rdG_er {s : List Int} {a : Nat → Int} {i n : Nat} (hs : Shp s) (ha : Wal n a) (hi : i < n) : rdG s a i n = er s n a i := by
  refine IsMin.uniq (f := fun u => a u + atI s (dst u i)) (S := fun u => u < n ∧ dst u i < s.length) ⟨?_, fun u hu => rdG_le.2 u hu.1 hu.2⟩ (er_isMin hs ha hi)
  rcases rdG_at (s := s) (a := a) (i := i) (m := n) with h | ⟨u, h1, h2, h3⟩
  · exact ⟨i, ⟨hi, by rw [dst_self]; exact hs.pos⟩, by show _ = a i + atI s (dst i i); rw [h, dst_self, hs.zero]; omega⟩
  · exact ⟨u, ⟨h1, h2⟩, h3⟩
end Go.Proofs.Ytjdnpgilinfkgaa
