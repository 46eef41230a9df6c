/-
  checkRound, round and Round of package play.
-/
import Derived.Test.YtjdnpgilinfkgaaNQ
import Derived.Test.YtjdnpgilinfkgaaMH
namespace Go.Proofs.Ytjdnpgilinfkgaa
open Go.RowKit

/-- 0: a round tip · 3: a number out of its range · 6: too many elements. -/
def ckRn (radius arc : Int) : Int := if win radius 0 1024 && win arc 1 4194304 then (if 64 < radius.toNat / arc.toNat + 1 then 6 else 0) else 3
theorem ckRn_ok {radius arc : Int} (h : ckRn radius arc = 0) : ∃ R a : Nat, radius = R ∧ arc = a ∧ R ≤ 1024 ∧ 1 ≤ a ∧ a ≤ 4194304 ∧ R / a + 1 ≤ 64 := by
  unfold ckRn win at h
  split at h
  · rename_i h1
    simp only [Bool.and_eq_true, decide_eq_true_eq] at h1
    split at h
    · exact absurd h (by decide)
    · rename_i h2
      exact ⟨radius.toNat, arc.toNat, by omega, by omega, by omega, by omega, by omega, Nat.le_of_not_lt h2⟩
  · exact absurd h (by decide)
theorem ckRn_of {R a : Nat} (h1 : R ≤ 1024) (h2 : 1 ≤ a) (h3 : a ≤ 4194304) (h4 : R / a + 1 ≤ 64) : ckRn R a = 0 := by
  unfold ckRn win
  rw [if_pos (by simp only [Bool.and_eq_true, decide_eq_true_eq]; omega), Int.toNat_natCast, Int.toNat_natCast, if_neg (Nat.not_lt.2 h4)]
def rnRes (radius arc : Int) (up : Bool) : List Int := if ckRn radius arc = 0 then rndL radius.toNat arc.toNat up else []

set_option maxHeartbeats 400000 in
theorem elements_any (R a : Nat) (w : World) (hR : R ≤ 1024) (ha : 1 ≤ a) (ha2 : a ≤ 4194304) :
    Calls Try.prog 88 #[.int .i64 R, .int .i64 a] w fun e w' => e = .returned (.int .i64 ((R / a + 1 : Nat) : Int)) ∧ w = w' := by
  have hd : R / a ≤ R := Nat.div_le_self R a
  have e1 : (R : Int).tdiv (a : Int) = ((R / a : Nat) : Int) := by rw [Int.tdiv_eq_ediv_of_nonneg (by omega)]; rfl
  have e1' : (R : Int) / (a : Int) = ((R / a : Nat) : Int) := rfl
  have q1 : ¬ ((a : Int) = 0) := by omega
  have q2 : ((a : Int) == 0) = false := beq_eq_false_iff_ne.2 q1
  obtain ⟨d, hdd⟩ : ∃ d, R / a = d := ⟨_, rfl⟩
  rw [hdd] at e1 e1' hd ⊢
  have e2 : IntKind.i64.wrap (d : Int) = (d : Int) := IntWalk.i64_in _ (by omega)
  have e3 : IntKind.i64.wrap ((d : Int) + 1) = (d : Int) + 1 := IntWalk.i64_in _ (by omega)
  have e4 : ((d + 1 : Nat) : Int) = (d : Int) + 1 := by omega
  rw [e4]
  clear hdd hd
  go_enter Try.func88, Try.ntmps88
  go_wp2
  go_ret
  exact ⟨rfl, rfl⟩

set_option maxHeartbeats 1000000 in
theorem checkRound_any (radius arc : Int) (w : World) :
    Calls Try.prog 50 #[.int .i64 radius, .int .i64 arc] w fun e w' => e = .returned (.int .i64 (ckRn radius arc)) ∧ w = w' := by
  cases h1 : win radius 0 1024
  · have H1 := Lib.hid h1
    have HR : Hid (ckRn radius arc = 3) := Lib.hid (by unfold ckRn; rw [h1]; rfl)
    clear h1
    go_enter Try.func50, Try.ntmps50
    go_wp2_with ((with_reducible refine (betweenP_any _ _ _ _).mono ?_); rintro e w' ⟨rfl, rfl⟩; (try rw [H1.out]))
    go_ret
    exact ⟨ret_i HR.out.symm, rfl⟩
  · cases h2 : win arc 1 4194304
    · have H1 := Lib.hid h1
      have H2 := Lib.hid h2
      have HR : Hid (ckRn radius arc = 3) := Lib.hid (by unfold ckRn; rw [h1, h2]; rfl)
      clear h1 h2
      go_enter Try.func50, Try.ntmps50
      go_wp2_with ((with_reducible refine (betweenP_any _ _ _ _).mono ?_); rintro e w' ⟨rfl, rfl⟩; (try rw [H1.out]); (try rw [H2.out]))
      go_ret
      exact ⟨ret_i HR.out.symm, rfl⟩
    · have b1 : 0 ≤ radius ∧ radius ≤ 1024 := by unfold win at h1; simpa only [Bool.and_eq_true, decide_eq_true_eq] using h1
      have b2 : 1 ≤ arc ∧ arc ≤ 4194304 := by unfold win at h2; simpa only [Bool.and_eq_true, decide_eq_true_eq] using h2
      have hr : ckRn radius arc = if 64 < radius.toNat / arc.toNat + 1 then 6 else 0 := by unfold ckRn; rw [h1, h2]; rfl
      obtain ⟨R, rfl⟩ : ∃ R : Nat, radius = R := ⟨radius.toNat, by omega⟩
      obtain ⟨a, rfl⟩ : ∃ a : Nat, arc = a := ⟨arc.toNat, by omega⟩
      rw [Int.toNat_natCast, Int.toNat_natCast] at hr
      have EL := Lib.hid (fun W => elements_any R a W (by omega) (by omega) (by omega))
      obtain ⟨d, hdd⟩ : ∃ d, R / a + 1 = d := ⟨_, rfl⟩
      rw [hdd] at EL hr
      have H1 := Lib.hid h1
      have H2 := Lib.hid h2
      have HR := Lib.hid hr
      clear h1 h2 hr hdd b1 b2
      by_cases c : 64 < d
      · have g1 : (64 : Int) < (d : Int) := by omega
        go_enter Try.func50, Try.ntmps50
        go_wp2_with (first | ((with_reducible refine (betweenP_any _ _ _ _).mono ?_); rintro e w' ⟨rfl, rfl⟩; (try rw [H1.out]); (try rw [H2.out])) | ((with_reducible refine (EL.out _).mono ?_); rintro e w' ⟨rfl, rfl⟩))
        go_ret
        exact ⟨ret_i (by rw [HR.out, if_pos c]), rfl⟩
      · have g1 : ¬ ((64 : Int) < (d : Int)) := by omega
        go_enter Try.func50, Try.ntmps50
        go_wp2_with (first | ((with_reducible refine (betweenP_any _ _ _ _).mono ?_); rintro e w' ⟨rfl, rfl⟩; (try rw [H1.out]); (try rw [H2.out])) | ((with_reducible refine (EL.out _).mono ?_); rintro e w' ⟨rfl, rfl⟩))
        go_ret
        exact ⟨ret_i (by rw [HR.out, if_neg c]), rfl⟩

/-- What a call leaves that returns a tip whose shape is new. -/
def TipPostN (w : World) (s : List Int) (e : Ending) (w' : World) : Prop :=
  ∃ A n k, e = .returned (.agg #[.slice A n k]) ∧ LI w' w'.heap.size A n s ∧ n ≤ k ∧ Below w.heap.size w w' ∧ ∀ ad, 0 < n → A = some ad → w.heap.size + 1 ≤ ad.block
theorem li_far {W : World} {B : Nat} {A : Option Addr} {n : Nat} {s : List Int} (h : LI W B A n s) (p : Addr) (v : Value) (hne : ∀ ad, 0 < n → A = some ad → ad.block ≠ p.block) : LI (W.setCell p v) B A n s := by
  refine ⟨h.1, h.2.1, fun h0 => ?_⟩
  obtain ⟨ad, e, hb, hcell⟩ := h.2.2 h0
  exact ⟨ad, e, hb, fun jj u hu => cell_st (hcell jj u hu) (by rw [block_of_add]; exact (hne ad h0 e).symm)⟩

set_option maxRecDepth 100000 in
set_option maxHeartbeats 4000000 in
theorem round_any (R a : Nat) (up : Bool) (w : World) (hR : R ≤ 1024) (ha : 1 ≤ a) (ha2 : a ≤ 4194304) (hn : R / a + 1 ≤ 64) :
    Calls Try.prog 51 #[.int .i64 R, .int .i64 a, .bool up] w (TipPostN w (rndL R a up)) := by
  have EL := Lib.hid (fun W => elements_any R a W hR ha ha2)
  have BH := Lib.hid (fun (k : Nat) (h : k < R / a + 1) W => behindR_any R (k * a) up W hR (rndL_in h))
  have HAT := Lib.hid (fun (k : Nat) (h : k < R / a + 1) => show (rndL R a up).take (k + 1) = (rndL R a up).take k ++ [bhL R (k * a) up] from by
    have hr : k < (rndL R a up).length := by rw [rndL_len]; exact h
    have h2 := rndL_at (up := up) h
    rw [atI_eq hr] at h2
    rw [List.take_succ_eq_append_getElem hr, h2])
  have HKA := Lib.hid (fun (k : Nat) (h : k < R / a + 1) => rndL_in h)
  have HLEN := Lib.hid (rndL_len R a up)
  obtain ⟨n, hnn⟩ : ∃ n, R / a + 1 = n := ⟨_, rfl⟩
  rw [hnn] at EL BH HAT HKA HLEN hn
  clear hnn
  obtain ⟨i0, hi0, hz0, hz1, hz2⟩ := info_parts info_i64
  have HI0 := Lib.hid hi0
  have HZ0 := Lib.hid hz0
  have HZ1 := Lib.hid hz1
  have HZ2 := Lib.hid hz2
  have hmk := fun (W : World) => run_make_rowN (P := Try.prog) 22 2 i0 _ Try.underlying22 hi0 hz0 .i64 .i64 0 n (Nat.zero_le _) (by rw [hz2]; omega) (by omega) W
  rw [hz1] at hmk
  simp only [Int.natCast_zero] at hmk
  clear hi0 hz0 hz1 hz2
  go_enter Try.func51, Try.ntmps51
  go_wp2_with ((with_reducible refine (EL.out _).mono ?_); rintro e w' ⟨rfl, rfl⟩)
  have hown : ((w.alloc (.cells #[.slice none 0 0] 24)).alloc (.cells (madeCells #[.int .i64 0] n) 2)).ownsRow (w.heap.size + 1) 2 1 (.slice (some ⟨w.heap.size + 1, 0, none⟩) 0 n) 0 [] := by
    have h := World.ownsRow_made (base := w.heap.size + 1) (e := 2) (size := 1) (w.alloc (.cells #[.slice none 0 0] 24)) (madeCells #[.int .i64 0] n) n (by simp) (by unfold maxLen; omega) (by rw [size_madeCells]; simp)
    simpa using h
  obtain ⟨W, hW⟩ : ∃ W, (w.alloc (.cells #[.slice none 0 0] 24)).alloc (.cells (madeCells #[.int .i64 0] n) 2) = W := ⟨_, rfl⟩
  have hbw : Below w.heap.size w W := by rw [← hW]; exact ((Below.refl _ _).alloc (Nat.le_refl _) _).alloc (by simp) _
  have k0 : Blk W w.heap.size 24 #[.slice none 0 0] := by rw [← hW]; exact (Blk.new _ _ _).alloc _
  have hs1 : w.heap.size + 1 ≤ W.heap.size := by rw [← hW]; simp
  rw [hW] at hown ⊢
  have HO := Lib.hid hown
  have HB := Lib.hid hbw
  have K0 := Lib.hid k0
  clear hown hmk hW hbw k0
  go_loopw [8, 16] (fun v z wr => ∃ (j : Nat) (sv : Value), j ≤ n ∧ z = .int .i64 j ∧ sv = v ∧ Hid (wr.ownsRow (w.heap.size + 1) 2 1 sv j (nums ((rndL R a up).take j))) ∧ Hid (Below w.heap.size w wr) ∧ Hid (Blk wr w.heap.size 24 #[.slice none 0 0]) ∧ w.heap.size + 1 ≤ wr.heap.size) (fun v z wr => n - (intOf z).toNat)
  case atStart => exact ⟨0, _, Nat.zero_le _, rfl, rfl, HO, HB, K0, hs1⟩
  case round =>
    clear HO HB K0 hs1
    obtain ⟨j, sv, hj, rfl, rfl, HO, HB, K0, hs1⟩ := hrel
    by_cases hlt : j < n
    · have HT := Lib.hid (HAT.out j hlt)
      have CALL := BH.out j hlt wr
      have hka := HKA.out j hlt
      have m1 : (j : Int) * a = ((j * a : Nat) : Int) := by simp
      have e1 : IntKind.i64.wrap ((j * a : Nat) : Int) = ((j * a : Nat) : Int) := IntWalk.i64_in _ (by omega)
      obtain ⟨ka, hk⟩ : ∃ x, j * a = x := ⟨_, rfl⟩
      rw [hk] at HT CALL m1 e1
      obtain ⟨q, hq⟩ : ∃ q, bhL R ka up = q := ⟨_, rfl⟩
      rw [hq] at HT CALL
      have e2 : IntKind.i64.wrap ((j : Int) + 1) = (j : Int) + 1 := IntWalk.i64_in _ (by omega)
      have g1 : (j : Int) < (n : Int) := by omega
      clear hk hq hka
      go_wp2_with fail
      refine CALL.mono ?_
      rintro e w2 ⟨rfl, hb⟩
      replace HO := Lib.hid (own_below HO.out hb)
      replace HB := Lib.hid (HB.out.trans (hb.mono HB.out.size))
      replace K0 := Lib.hid (K0.out.below hb K0.out.lt)
      have hs2 := hb.size
      clear CALL hb
      go_wp2_with (at_builtin; refine wpList_append_own _ rfl (.tmp 19) (.tmp 26) _ rfl (w.heap.size + 1) 2 i0 _ 1 8 Try.underlying22 HI0.out HZ0.out HZ1.out HZ2.out rfl (by omega) _ j (nums ((rndL R a up).take j)) rfl (HO.out.alloc _) ⟨w2.heap.size, 0, none⟩ 1 1 [.int .i64 q] rfl rfl (nine_new _ _ _) ?c1 ?c2 ?c3 ?c4 ?_)
      case c1 => first | rfl | (intro x hx; simp at hx; subst hx; rfl)
      case c2 => simp only [maxLen]; omega
      case c3 => omega
      case c4 => first | omega | (simp; omega)
      intro v' w4 hown' hgrow _
      have HON : Hid (w4.ownsRow (w.heap.size + 1) 2 1 v' (j + 1) (nums ((rndL R a up).take (j + 1)))) := Lib.hid (by
        rw [HT.out]; simpa [nums] using hown')
      have hne := fun g hg => (HO.out.lt g hg).1
      have HBN := Lib.hid ((HB.out.alloc HB.out.size (.cells #[.int .i64 q] 2)).grown hgrow (by simp; omega) (fun g hg => by have := hne g hg; omega))
      have HK0 := Lib.hid ((K0.out.alloc _).grown hgrow (fun e => by have := hne _ e.symm; omega))
      have hs4 : w.heap.size + 1 ≤ w4.heap.size := by have := hgrow.size; simp at this; omega
      clear hown' hgrow hne
      go_wp2
      go_roundw
      case rel => exact ⟨j + 1, v', by omega, by go_num, rfl, HON, HBN, HK0, hs4⟩
      case measure => simp [intOf]; omega
    · obtain rfl : j = n := by omega
      obtain ⟨Ao, co, hsv, hL, hc⟩ := own_readsU HO.out
      subst hsv
      rw [List.take_of_length_le (by rw [HLEN.out]; omega)] at hL
      have HLI := Lib.hid hL
      clear hL
      obtain ⟨z0, z1, z2⟩ := K0.out.one
      go_wp2
      have KF := Lib.hid (K0.out.set_ 0 (.slice Ao j co))
      have g0 := (KF.out.cell 0).trans rfl
      have hwb : ∀ ad, 0 < j → Ao = some ad → w.heap.size + 1 ≤ ad.block := fun ad h0 e => by
        obtain ⟨g, hg, hgl, _⟩ := own_at (j := 0) HO.out h0
        rw [hg] at e; cases e
        exact (HO.out.lt g (by rw [hg]; rfl)).1
      refine ⟨rfl, .agg #[.slice Ao j co], ?_, Ao, j, co, rfl, ?_, hc, HB.out.setCell (p := ⟨w.heap.size, 0, none⟩) (Nat.le_refl _) _, hwb⟩
      · simp [results, Try.results51, go_sem, g0]
      · have h := li_far HLI.out ⟨w.heap.size, 0, none⟩ (.slice Ao j co) (fun ad h0 e => by have := hwb ad h0 e; show ad.block ≠ w.heap.size; omega)
        simpa [World.setCell] using h.more (by simp)

/-- What a call leaves that returns a tip and an error. -/
def RndPost (w : World) (er : Int) (s : List Int) (e : Ending) (w' : World) : Prop :=
  ∃ A n k, e = .returned (.tuple #[.agg #[.slice A n k], .int .i64 er]) ∧ LI w' w'.heap.size A n s ∧ n ≤ 64 ∧ n ≤ k ∧ Below w.heap.size w w'

set_option maxRecDepth 100000 in
set_option maxHeartbeats 4000000 in
theorem Round_any (radius arc : Int) (up : Bool) (w : World) :
    Calls Try.prog 16 #[.int .i64 radius, .int .i64 arc, .bool up] w (RndPost w (ckRn radius arc) (rnRes radius arc up)) := by
  have CR := Lib.hid (fun W => checkRound_any radius arc W)
  have hbw : Below w.heap.size w (w.alloc (.cells #[.slice none 0 0] 24)) := (Below.refl _ _).alloc (Nat.le_refl _) _
  have kw : Blk (w.alloc (.cells #[.slice none 0 0] 24)) w.heap.size 24 #[.slice none 0 0] := Blk.new _ _ _
  by_cases hz : ckRn radius arc = 0
  · rw [hz] at CR
    have hres : rnRes radius arc up = rndL radius.toNat arc.toNat up := if_pos hz
    rw [hz, hres]
    obtain ⟨R, a, rfl, rfl, h1, h2, h3, h4⟩ := ckRn_ok hz
    rw [Int.toNat_natCast, Int.toNat_natCast]
    have RN := Lib.hid (fun W => round_any R a up W h1 h2 h3 h4)
    have HLEN := Lib.hid (show (rndL R a up).length ≤ 64 by rw [rndL_len]; exact h4)
    clear hz hres h1 h2 h3 h4
    go_enter Try.func16, Try.ntmps16
    go_wp2_with fail
    refine (CR.out _).mono ?_
    rintro e w' ⟨rfl, rfl⟩
    obtain ⟨W, hW⟩ : ∃ W, w.alloc (.cells #[.slice none 0 0] 24) = W := ⟨_, rfl⟩
    rw [hW] at hbw kw ⊢
    have K := Lib.hid kw
    have HB := Lib.hid hbw
    clear hW kw hbw
    go_wp2_with fail
    refine (RN.out _).mono ?_
    rintro e w2 ⟨A, n, k, rfl, hL, hnk, hb, hnew⟩
    have hn : n ≤ 64 := by have := hL.1; have := HLEN.out; omega
    have hs0 := K.out.lt
    replace K := Lib.hid (K.out.below hb K.out.lt)
    replace HB := Lib.hid (HB.out.trans (hb.mono HB.out.size))
    have HLI := Lib.hid (li_far hL ⟨w.heap.size, 0, none⟩ (.slice A n k) (fun ad h0 e => by have := hnew ad h0 e; show ad.block ≠ w.heap.size; omega))
    clear hL hb hnew
    obtain ⟨z0, z1, z2⟩ := K.out.one
    go_wp2
    have KF := Lib.hid (K.out.set_ 0 (.slice A n k))
    have g0 := (KF.out.cell 0).trans rfl
    refine ⟨rfl, .tuple #[.agg #[.slice A n k], .int .i64 0], ?_, A, n, k, rfl, HLI.out.more (by simp [World.setCell]), hn, hnk, HB.out.setCell (p := ⟨w.heap.size, 0, none⟩) (Nat.le_refl _) _⟩
    simp [results, Try.results16, go_sem, g0]
  · have hres : rnRes radius arc up = [] := if_neg hz
    rw [hres]
    obtain ⟨q, hq⟩ : ∃ q, ckRn radius arc = q := ⟨_, rfl⟩
    rw [hq] at CR hz ⊢
    have q1 : (q != 0) = true := by rw [bne_iff_ne]; exact hz
    clear hz hq hres
    go_enter Try.func16, Try.ntmps16
    go_wp2_with fail
    refine (CR.out _).mono ?_
    rintro e w' ⟨rfl, rfl⟩
    obtain ⟨W, hW⟩ : ∃ W, w.alloc (.cells #[.slice none 0 0] 24) = W := ⟨_, rfl⟩
    rw [hW] at hbw kw ⊢
    have K := Lib.hid kw
    have HB := Lib.hid hbw
    clear hW kw hbw
    obtain ⟨z0, z1, z2⟩ := K.out.one
    go_wp2
    have KF := Lib.hid (K.out.set_ 0 (.slice none 0 0))
    have g0 := (KF.out.cell 0).trans rfl
    refine ⟨rfl, .tuple #[.agg #[.slice none 0 0], .int .i64 q], ?_, none, 0, 0, rfl, LI.none_, by omega, by omega, HB.out.setCell (p := ⟨w.heap.size, 0, none⟩) (Nat.le_refl _) _⟩
    simp [results, Try.results16, go_sem, g0]
end Go.Proofs.Ytjdnpgilinfkgaa
