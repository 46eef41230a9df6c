/-
  The earliest starts: their mathematics, and Starts of package press.
-/
import Derived.Test.YtomncopeekegoaaI6
import Derived.Test.YtomncopeekegoaaW2
import Derived.LoopN
namespace Go.Proofs.Ytomncopeekegoaa
open Go.RowKit

/-- The earliest starts of k discs. -/
def srt (p b : Nat) (st rs : Int) : Nat → List Int
  | 0 => []
  | k + 1 => srt p b st rs k ++ [ear p b st rs (srt p b st rs k)]
theorem srt_len (p b : Nat) (st rs : Int) : ∀ k, (srt p b st rs k).length = k
  | 0 => rfl
  | k + 1 => by rw [srt, List.length_append, srt_len p b st rs k]; rfl
theorem foldl_max_le {M : Int} : ∀ (l : List Int) (a : Int), a ≤ M → (∀ x ∈ l, x ≤ M) → l.foldl max a ≤ M
  | [], a, ha, _ => ha
  | x :: l, a, ha, h => foldl_max_le l (max a x) (by have := h x (by simp); omega) (fun y hy => h y (by simp [hy]))
theorem foldl_max_ge : ∀ (l : List Int) (a : Int), a ≤ l.foldl max a
  | [], a => Int.le_refl _
  | x :: l, a => Int.le_trans (by omega) (foldl_max_ge l (max a x))
theorem ear_nonneg (p b : Nat) (st rs : Int) (l : List Int) : 0 ≤ ear p b st rs l := foldl_max_ge _ _
theorem getD_le {l : List Int} {M : Int} (h : ∀ x ∈ l, x ≤ M) (hM : 0 ≤ M) (i : Nat) : l.getD i 0 ≤ M := by
  by_cases hi : i < l.length
  · rw [List.getD_eq_getElem?_getD, List.getElem?_eq_getElem hi]; exact h _ (List.getElem_mem hi)
  · rw [List.getD_eq_getElem?_getD, List.getElem?_eq_none (by omega)]; exact hM
theorem ear_le {p b : Nat} {st rs M : Int} {l : List Int} (hs : 0 ≤ st) (hr : 0 ≤ rs) (hM : 0 ≤ M) (h : ∀ x ∈ l, x ≤ M) : ear p b st rs l ≤ M + (st + rs) := by
  refine foldl_max_le _ _ (by omega) (fun x hx => ?_)
  unfold endU at hx
  have h1 := getD_le h hM (l.length - b)
  have h2 := getD_le h hM (l.length - p)
  rcases List.mem_append.1 hx with hx | hx
  · split at hx
    · rw [List.mem_singleton] at hx; omega
    · cases hx
  · split at hx
    · rw [List.mem_singleton] at hx; omega
    · cases hx
theorem srt_bd {p b : Nat} {st rs : Int} (hs : 1 ≤ st ∧ st ≤ 65536) (hr : 1 ≤ rs ∧ rs ≤ 65536) : ∀ k, ∀ x ∈ srt p b st rs k, 0 ≤ x ∧ x ≤ k * 131072
  | 0, x, hx => by cases hx
  | k + 1, x, hx => by
    have ih := srt_bd (p := p) (b := b) hs hr k
    rw [srt, List.mem_append, List.mem_singleton] at hx
    rcases hx with hx | rfl
    · have := ih x hx; omega
    · have h1 := ear_nonneg p b st rs (srt p b st rs k)
      have h2 := ear_le (p := p) (b := b) (st := st) (rs := rs) (M := k * 131072) (l := srt p b st rs k) (by omega) (by omega) (by omega) (fun x hx => (ih x hx).2)
      omega
/-- The starts, or none. -/
def srtV (p b st rs n : Int) : List Int := if ckH p b st rs n = 0 then srt p.toNat b.toNat st rs n.toNat else []
theorem ckH_0 {p b st rs n : Int} : ckH p b st rs n = 0 ↔ (1 ≤ p ∧ p ≤ 64) ∧ (1 ≤ b ∧ b ≤ 64) ∧ (1 ≤ st ∧ st ≤ 65536) ∧ (1 ≤ rs ∧ rs ≤ 65536) ∧ (0 ≤ n ∧ n ≤ 1000) := by
  unfold ckH
  constructor
  · intro h
    split at h
    · rename_i h1
      split at h
      · rename_i h2
        simp only [Bool.and_eq_true, win_iff] at h1 h2
        exact ⟨h1.1.1.1, h1.1.1.2, h1.1.2, h1.2, h2⟩
      · cases h
    · cases h
  · rintro ⟨h1, h2, h3, h4, h5⟩
    rw [if_pos (by simp only [Bool.and_eq_true, win_iff]; exact ⟨⟨⟨h1, h2⟩, h3⟩, h4⟩), if_pos (win_iff.2 h5)]
theorem info_parts {P : Program} {t : TypeId} {z : Value} {size bytes : Nat} (h : (P.info? t).map (fun i => (i.zero, i.size, i.bytes)) = some (some z, size, bytes)) : ∃ i, P.info? t = some i ∧ i.zero = some z ∧ i.size = size ∧ i.bytes = bytes := by
  cases hi : P.info? t with
  | none => rw [hi] at h; cases h
  | some i =>
    rw [hi] at h
    simp only [Option.map_some, Option.some.injEq, Prod.mk.injEq] at h
    exact ⟨i, rfl, h.1, h.2.1, h.2.2⟩

set_option maxRecDepth 100000 in
set_option maxHeartbeats 4000000 in
theorem Starts_any (p b st rs n : Int) (w : World) :
    Calls Try.prog 26 #[.int .i64 p, .int .i64 b, .int .i64 st, .int .i64 rs, .int .i64 n] w fun e w' =>
      ∃ A k c, e = .returned (.tuple #[.slice A k c, .int .i64 (ckH p b st rs n)]) ∧ LI w' w'.heap.size A k (srtV p b st rs n) ∧ k ≤ c ∧ k ≤ 1000 ∧ Below w.heap.size w w' := by
  obtain ⟨er, her⟩ : ∃ er, ckH p b st rs n = er := ⟨_, rfl⟩
  by_cases h0 : er = 0
  · subst h0
    obtain ⟨hp, hb, hst, hrs, hn⟩ := ckH_0.1 her
    obtain ⟨p', rfl⟩ : ∃ x : Nat, p = x := ⟨p.toNat, by omega⟩
    obtain ⟨b', rfl⟩ : ∃ x : Nat, b = x := ⟨b.toNat, by omega⟩
    obtain ⟨n', rfl⟩ : ∃ x : Nat, n = x := ⟨n.toNat, by omega⟩
    have HV : Hid (srtV p' b' st rs n' = srt p' b' st rs n') := Lib.hid (by simp [srtV, her])
    have HER := Lib.hid her
    clear her
    obtain ⟨i0, hi0, hz0, hz1, hz2⟩ := info_parts info_i64
    have HI0 := Lib.hid hi0
    have HZ0 := Lib.hid hz0
    have HZ1 := Lib.hid hz1
    have HZ2 := Lib.hid hz2
    have hmk := fun (W : World) => run_make_rowN (P := Try.prog) 37 2 i0 _ Try.underlying37 hi0 hz0 .i64 .i64 0 n' (Nat.zero_le _) (by rw [hz2]; omega) (by omega) W
    rw [hz1] at hmk
    simp only [Int.natCast_zero] at hmk
    clear hi0 hz0 hz1 hz2
    go_enter Try.func26, Try.ntmps26
    go_wp2_with fail
    refine (checkHouse_any _ _ _ _ _ _).mono ?_
    rintro e w1 ⟨rfl, hb1⟩
    rw [HER.out]
    have k0 := (Blk.new w 109 #[.int .i64 p', .int .i64 b', .int .i64 st, .int .i64 rs]).below hb1 (by simp)
    have hb0 := (below_a w (.cells #[.int .i64 p', .int .i64 b', .int .i64 st, .int .i64 rs] 109)).trans (hb1.mono (by simp))
    have hs1 : w.heap.size + 1 ≤ w1.heap.size := by have := hb1.size; simpa using this
    clear hb1
    go_wp2_with fail
    have hown : (w1.alloc (.cells (madeCells #[.int .i64 0] n') 2)).ownsRow (w.heap.size + 1) 2 1 (.slice (some ⟨w1.heap.size, 0, none⟩) 0 n') 0 [] := by
      have h := World.ownsRow_made (base := w.heap.size + 1) (e := 2) (size := 1) w1 (madeCells #[.int .i64 0] n') n' (by omega) (by unfold maxLen; omega) (by rw [size_madeCells]; simp)
      simpa using h
    obtain ⟨W, hW⟩ : ∃ W, w1.alloc (.cells (madeCells #[.int .i64 0] n') 2) = W := ⟨_, rfl⟩
    have hbw : Below w.heap.size w W := by rw [← hW]; exact hb0.alloc (by omega) _
    have hs2 : w.heap.size + 1 ≤ W.heap.size := by rw [← hW]; simp; omega
    have k2 : Blk W w.heap.size 109 #[.int .i64 p', .int .i64 b', .int .i64 st, .int .i64 rs] := by rw [← hW]; exact k0.alloc _
    rw [hW] at hown ⊢
    have HO := Lib.hid hown
    have HB := Lib.hid hbw
    have K0 := Lib.hid k2
    clear hown hmk hW hbw k0 hb0 hs1 k2
    go_loopw [14, 29] (fun v z wr => ∃ (j : Nat) (sv : Value), j ≤ n' ∧ z = .int .i64 j ∧ sv = v ∧ Hid (wr.ownsRow (w.heap.size + 1) 2 1 sv j (nums (srt p' b' st rs j))) ∧ Hid (Below w.heap.size w wr) ∧ Hid (Blk wr w.heap.size 109 #[.int .i64 p', .int .i64 b', .int .i64 st, .int .i64 rs]) ∧ w.heap.size + 1 ≤ wr.heap.size) (fun v z wr => n' - (intOf z).toNat)
    case atStart => exact ⟨0, _, Nat.zero_le _, rfl, rfl, HO, HB, K0, hs2⟩
    case round =>
      clear HO HB K0 hs2
      obtain ⟨j, sv, hj, rfl, rfl, HO, HB, K0, hs2⟩ := hrel
      by_cases hlt : j < n'
      · have hbd := srt_bd (p := p') (b := b') hst hrs j
        obtain ⟨Ao, co, rfl, hL, hc⟩ := own_readsU HO.out
        have CALL := Lib.hid (earliest_any wr.heap.size p' b' st rs Ao j co (srt p' b' st rs j) wr hL (Nat.le_refl _) (by omega) (by omega) hst hrs (by omega) (fun x hx => by have := hbd x hx; omega))
        have HT : Hid (srt p' b' st rs (j + 1) = srt p' b' st rs j ++ [ear p' b' st rs (srt p' b' st rs j)]) := Lib.hid rfl
        have hq := (srt_bd (p := p') (b := b') hst hrs (j + 1)) (ear p' b' st rs (srt p' b' st rs j)) (by rw [HT.out]; simp)
        obtain ⟨q, hqq⟩ : ∃ q, ear p' b' st rs (srt p' b' st rs j) = q := ⟨_, rfl⟩
        rw [hqq] at HT CALL hq
        have e0 : IntKind.i64.wrap q = q := IntWalk.i64_in _ (by omega)
        have e2 : IntKind.i64.wrap ((j : Int) + 1) = (j : Int) + 1 := IntWalk.i64_in _ (by omega)
        have g1 : (j : Int) < (n' : Int) := by omega
        obtain ⟨c0, c1, c2, c3⟩ : wr.cell? ⟨w.heap.size, 0, none⟩ = some (.int .i64 p') ∧ wr.cell? ⟨w.heap.size, 1, none⟩ = some (.int .i64 b') ∧ wr.cell? ⟨w.heap.size, 2, none⟩ = some (.int .i64 st) ∧ wr.cell? ⟨w.heap.size, 3, none⟩ = some (.int .i64 rs) := ⟨(K0.out.cell 0).trans rfl, (K0.out.cell 1).trans rfl, (K0.out.cell 2).trans rfl, (K0.out.cell 3).trans rfl⟩
        clear hqq hL hbd hq
        go_wp2_with fail
        refine CALL.out.mono ?_
        rintro e w2 ⟨rfl, hb2⟩
        replace HO := Lib.hid (own_below HO.out hb2)
        replace HB := Lib.hid (HB.out.trans (hb2.mono HB.out.size))
        replace K0 := Lib.hid (K0.out.below hb2 K0.out.lt)
        have hs3 := hb2.size
        clear CALL hb2 c0 c1 c2 c3
        go_wp2_with (at_builtin; refine wpList_append_own _ rfl (.tmp 31) (.tmp 36) _ rfl (w.heap.size + 1) 2 i0 _ 1 8 Try.underlying37 HI0.out HZ0.out HZ1.out HZ2.out rfl (by omega) _ j (nums (srt p' b' st rs j)) rfl (HO.out.alloc _) ⟨w2.heap.size, 0, none⟩ 1 1 [.int .i64 q] rfl rfl (nine_new _ _ _) ?c1 ?c2 ?c3 ?c4 ?_)
        case c1 => first | rfl | (intro x hx; simp at hx; subst hx; rfl)
        case c2 => simp only [maxLen]; omega
        case c3 => omega
        case c4 => first | omega | (simp; omega)
        intro v' w4 hown' hgrow _
        have HON : Hid (w4.ownsRow (w.heap.size + 1) 2 1 v' (j + 1) (nums (srt p' b' st rs (j + 1)))) := Lib.hid (by
          rw [HT.out]; simpa [nums] using hown')
        have hne := fun g hg => (HO.out.lt g hg).1
        have HBN := Lib.hid ((HB.out.alloc HB.out.size (.cells #[.int .i64 q] 2)).grown hgrow (by simp; omega) (fun g hg => by have := hne g hg; omega))
        have HK0 := Lib.hid ((K0.out.alloc _).grown hgrow (fun e => by have := hne _ e.symm; omega))
        have hs4 : w.heap.size + 1 ≤ w4.heap.size := by have := hgrow.size; simp at this; omega
        clear hown' hgrow hne
        go_wp2
        go_roundw
        case rel => exact ⟨j + 1, v', by omega, by go_num, rfl, HON, HBN, HK0, hs4⟩
        case measure => simp [intOf]; omega
      · obtain rfl : j = n' := by omega
        obtain ⟨Ao, co, hsv, hL, hc⟩ := own_readsU HO.out
        subst hsv
        have HLI := Lib.hid hL
        clear hL
        go_wp2
        go_ret2
        rw [HER.out, HV.out]
        exact ⟨Ao, j, co, rfl, HLI.out, hc, by omega, HB.out⟩
  · have h0' : (er != 0) = true := by rw [bne_iff_ne]; exact h0
    have h0'' : (er == 0) = false := beq_eq_false_iff_ne.2 h0
    have HV : Hid (srtV p b st rs n = []) := Lib.hid (by unfold srtV; rw [her, if_neg h0])
    have HER := Lib.hid her
    clear her
    go_enter Try.func26, Try.ntmps26
    go_wp2_with fail
    refine (checkHouse_any _ _ _ _ _ _).mono ?_
    rintro e w1 ⟨rfl, hb1⟩
    rw [HER.out]
    go_wp2
    go_ret2
    rw [HER.out, HV.out]
    exact ⟨none, 0, 0, rfl, LI.none_, Nat.le_refl _, Nat.zero_le _, (below_a _ _).trans (hb1.mono (by simp))⟩
end Go.Proofs.Ytomncopeekegoaa
