/-
  Curves in memory as a list; checkCurves.
-/
import Derived.Test.YtilihdkfflfniaaU5
namespace Go.Proofs.Ytilihdkfflfniaa
open Go.RowKit

/-- A curve as it lies in memory: its slices, its numbers. -/
structure CV where
  Af : Option Addr
  nf : Nat
  kf : Nat
  Ab : Option Addr
  nb : Nat
  kb : Nat
  c : Cur
def cvCells (l : List CV) : List Value := l.flatMap fun t => [.slice t.Af t.nf t.kf, .slice t.Ab t.nb t.kb, .int .i64 t.c.share]
theorem cvCells_length (l : List CV) : (cvCells l).length = l.length * 3 := by
  induction l with
  | nil => rfl
  | cons x xs ih => simp [cvCells] at ih ⊢; omega
theorem cvCells_at (l : List CV) : ∀ (k : Nat) (h : k < l.length), (cvCells l)[k * 3]? = some (.slice l[k].Af l[k].nf l[k].kf) ∧ (cvCells l)[k * 3 + 1]? = some (.slice l[k].Ab l[k].nb l[k].kb) ∧ (cvCells l)[k * 3 + 2]? = some (.int .i64 l[k].c.share) := by
  induction l with
  | nil => intro k h; simp at h
  | cons x xs ih =>
    intro k h
    cases k with
    | zero => exact ⟨rfl, rfl, rfl⟩
    | succ k =>
      have := ih k (by simpa using h)
      rw [show (k + 1) * 3 = k * 3 + 3 from by omega]
      simpa [cvCells, List.getElem?_cons] using this
/-- A curve's lists, in memory below B. -/
structure CI (w : World) (B : Nat) (t : CV) : Prop where
  f : LI w B t.Af t.nf t.c.feed
  b : LI w B t.Ab t.nb t.c.back
theorem CI.below {w w' : World} {B B' : Nat} {t : CV} (h : CI w B t) (hb : Below B' w w') (hB : B ≤ B') : CI w' B t := ⟨h.f.below hb hB, h.b.below hb hB⟩
theorem CI.more {w : World} {B B' : Nat} {t : CV} (h : CI w B t) (hB : B ≤ B') : CI w B' t := ⟨h.f.more hB, h.b.more hB⟩
/-- '.slice A n c' reads as the curves l. -/
def RC (w : World) (B : Nat) (A : Option Addr) (n : Nat) (l : List CV) : Prop := n = l.length ∧ Reads w B 3 A n (cvCells l) ∧ ∀ t ∈ l, CI w B t
section
variable {w w' : World} {B B' n : Nat} {A : Option Addr} {l : List CV}
theorem RC.below (h : RC w B A n l) (hb : Below B' w w') (hB : B ≤ B') : RC w' B A n l := ⟨h.1, h.2.1.below hb hB, fun t ht => (h.2.2 t ht).below hb hB⟩
theorem RC.more (h : RC w B A n l) (hB : B ≤ B') : RC w B' A n l := ⟨h.1, h.2.1.more hB, fun t ht => (h.2.2 t ht).more hB⟩
theorem RC.at_ (h : RC w B A n l) {k : Nat} (hk : k < l.length) : ∃ ad, A = some ad ∧ ad.block < B ∧ w.cell? (ad.add (k * 3)) = some (.slice l[k].Af l[k].nf l[k].kf) ∧ w.cell? ⟨(ad.add (k * 3)).block, (ad.add (k * 3)).off + 1, none⟩ = some (.slice l[k].Ab l[k].nb l[k].kb) ∧ w.cell? ⟨(ad.add (k * 3)).block, (ad.add (k * 3)).off + 2, none⟩ = some (.int .i64 l[k].c.share) ∧ CI w B l[k] := by
  obtain ⟨rfl, hr, hs⟩ := h
  obtain ⟨ad, e, hb, hc⟩ := hr.2 (by omega)
  obtain ⟨h1, h2, h3⟩ := cvCells_at l k hk
  exact ⟨ad, e, hb, hc _ _ h1, by have := hc _ _ h2; rw [← add_of_add] at this; exact this, by have := hc _ _ h3; rw [← add_of_add] at this; exact this, hs _ (List.getElem_mem hk)⟩
end
/-- The first error of curves; 0 if there is none. -/
def errs : List Cur → Int
  | [] => 0
  | c :: cs => if ckV c = 0 then errs cs else ckV c
def ckCs (l : List Cur) : Int := if 8 < l.length then 6 else errs l
theorem errs_ok : ∀ {l : List Cur}, errs l = 0 → ∀ c ∈ l, ckV c = 0
  | [], _, c, hc => absurd hc (by simp)
  | d :: cs, h, c, hc => by
    unfold errs at h
    split at h
    · rename_i h0
      rcases List.mem_cons.1 hc with rfl | hc
      · exact h0
      · exact errs_ok h c hc
    · rename_i h0; exact absurd h h0
/-- Each slice is no longer than an int counts. -/
def CSm (l : List CV) : Prop := ∀ t ∈ l, t.nf ≤ 9223372036854775807 ∧ t.nb ≤ 9223372036854775807

set_option maxRecDepth 100000 in
set_option maxHeartbeats 1000000 in
theorem checkCurves_any (B : Nat) (A : Option Addr) (n k : Nat) (l : List CV) (w : World) (h0 : RC w B A n l) (hB : B ≤ w.heap.size) (hl : n ≤ 9223372036854775807) (hs : CSm l) :
    Calls Try.prog 47 #[.slice A n k] w fun e w' => e = .returned (.int .i64 (ckCs (l.map CV.c))) ∧ Below w.heap.size w w' := by
  have HN := Lib.hid h0.1
  have H := Lib.hid (h0.more hB)
  have HS := Lib.hid hs
  clear h0 hB hs
  by_cases hl2 : 8 < n
  · go_enter Try.func47, Try.ntmps47
    go_wp2
    go_ret
    exact ⟨ret_i (by unfold ckCs; rw [if_pos (by have := HN.out; simp; omega)]), Below.refl _ _⟩
  · have hck : ckCs (l.map CV.c) = errs (l.map CV.c) := by unfold ckCs; rw [if_neg (by have := HN.out; simp; omega)]
    obtain ⟨R, hR⟩ : ∃ R, errs (l.map CV.c) = R := ⟨_, rfl⟩
    rw [hck, hR]
    have HR := Lib.hid hR
    clear hck hR
    go_enter Try.func47, Try.ntmps47
    go_wp2
    go_loopw [11] (fun i wr => ∃ k : Nat, k ≤ n ∧ i = .int .i64 k ∧ Hid (Below w.heap.size w wr) ∧ Hid (errs ((l.drop k).map CV.c) = R)) (fun i wr => n - (intOf i).toNat)
    case atStart => exact ⟨0, Nat.zero_le _, rfl, Lib.hid (Below.refl _ _), HR⟩
    case round =>
      clear HR
      obtain ⟨j, hj, rfl, HBW, HR⟩ := hrel
      by_cases hlt : j < n
      · have hjl : j < l.length := by have := HN.out; omega
        obtain ⟨ad, hA, hbl, p0, p1, p2, hci⟩ := (H.out.below HBW.out (Nat.le_refl _)).at_ (k := j) hjl
        obtain rfl := hA
        have hsm := HS.out _ (List.getElem_mem hjl)
        have hrr := HR.out
        rw [List.drop_eq_getElem_cons hjl] at hrr
        have HD := Lib.hid hrr
        clear hrr
        obtain ⟨t, ht⟩ : ∃ t, l[j] = t := ⟨_, rfl⟩
        rw [ht] at p0 p1 p2 hci hsm HD
        clear ht
        obtain ⟨s1, s2⟩ := hsm
        have HCI := Lib.hid hci
        clear hci
        go_wp2_with fail
        obtain ⟨W, hW⟩ : ∃ W, wr.alloc (.cells #[.slice t.Af t.nf t.kf, .slice t.Ab t.nb t.kb, .int .i64 t.c.share] 24) = W := ⟨_, rfl⟩
        have HBX : Hid (Below w.heap.size w W) := Lib.hid (by rw [← hW]; exact HBW.out.alloc HBW.out.size _)
        have hk : Blk W wr.heap.size 24 #[.slice t.Af t.nf t.kf, .slice t.Ab t.nb t.kb, .int .i64 t.c.share] := by rw [← hW]; exact Blk.new _ _ _
        have HCX : Hid (CI W w.heap.size t) := Lib.hid (by rw [← hW]; exact HCI.out.below ((Below.refl _ _).alloc (Nat.le_refl _) _) HBW.out.size)
        rw [hW]
        clear hW p0 p1 p2
        obtain ⟨c0, c1, c2⟩ := hk.three_
        have hz : w.heap.size ≤ W.heap.size := HBX.out.size
        clear hk
        obtain ⟨r, hr⟩ : ∃ r, ckV t.c = r := ⟨_, rfl⟩
        have HER := Lib.hid hr
        clear hr
        by_cases hne : ¬ r = 0
        · go_wp2_with ((with_reducible refine (CheckCurve_any _ t.Af t.Ab t.nf t.kf t.nb t.kb t.c W HCX.out.f HCX.out.b hz s1 s2).mono ?_); rintro e w2 ⟨rfl, hb2⟩; rw [HER.out])
          go_ret
          exact ⟨ret_i (by have h := HD.out; rw [List.map_cons] at h; unfold errs at h; rw [if_neg (by rw [HER.out]; exact hne), HER.out] at h; exact h), HBX.out.trans (hb2.mono hz)⟩
        · obtain rfl : r = 0 := by omega
          clear hne
          go_wp2_with ((with_reducible refine (CheckCurve_any _ t.Af t.Ab t.nf t.kf t.nb t.kb t.c W HCX.out.f HCX.out.b hz s1 s2).mono ?_); rintro e w2 ⟨rfl, hb2⟩; rw [HER.out])
          go_roundw
          case rel => exact ⟨j + 1, by omega, by go_num, Lib.hid (HBX.out.trans (hb2.mono hz)), Lib.hid (by have h := HD.out; rw [List.map_cons] at h; unfold errs at h; rw [if_pos HER.out] at h; exact h)⟩
          case measure => simp [intOf]; omega
      · go_wp2
        go_ret
        have h := HR.out
        rw [List.drop_of_length_le (by have := HN.out; omega)] at h
        exact ⟨ret_i h, HBW.out⟩
end Go.Proofs.Ytilihdkfflfniaa
