/-
  What proves, one step after another; contracts of the document's proves and CheckRefusal.
-/
import Derived.Test.YtgdkcbnpgpjnbaaL33
import Derived.Test.YtgdkcbnpgpjnbaaL8
import Derived.Test.YtgdkcbnpgpjnbaaLR
namespace Go.Proofs.Ytgdkcbnpgpjnbaa
open Go.RowKit

def bgnL (b : Bk) (P : List Smp) : List Smp → Int
  | [] => 0
  | x :: _ => bgn b P x
/-- Where k steps lead, and their sum. -/
def stp (b : Bk) (P : List Smp) (S : List Smp) (k : Nat) : Option (Int × Int) := chn b P (bgnL b P S) 0 true (S.take k)
theorem stp_zero (b : Bk) (P : List Smp) (S : List Smp) : stp b P S 0 = some (bgnL b P S, 0) := by unfold stp; simp [chn]
theorem stp_succ (b : Bk) (P : List Smp) {S : List Smp} {k : Nat} (hk : k < S.length) : stp b P S (k + 1) = match stp b P S k with
    | none => none
    | some r => match edgO b P S[k] with
      | none => none
      | some e => if e.1 ≠ r.1 ∨ (0 < k ∧ r.1 = -1) then none else some (e.2.1, r.2 + e.2.2) := by
  unfold stp
  rw [List.take_succ_eq_append_getElem hk, chn_append]
  cases h : chn b P (bgnL b P S) 0 true (S.take k) with
  | none => rfl
  | some r =>
    have hf : (true && (S.take k).isEmpty) = decide (k = 0) := by
      cases S with
      | nil => simp at hk
      | cons x S => cases k <;> simp
    show chn b P r.1 r.2 (true && (S.take k).isEmpty) [S[k]] = _
    rw [hf, chn]
    cases edgO b P S[k] with
    | none => rfl
    | some e =>
      simp only [decide_eq_false_iff_not, chn]
      by_cases c1 : e.1 ≠ r.1 <;> by_cases c2 : k = 0 <;> by_cases c3 : r.1 = -1 <;> simp [c1, c2, c3] <;> omega
theorem stp_none (b : Bk) (P : List Smp) {S : List Smp} {k : Nat} (h : stp b P S k = none) : ∀ d, k + d ≤ S.length → stp b P S (k + d) = none
  | 0, _ => h
  | d + 1, hd => by
    rw [← Nat.add_assoc, stp_succ b P (show k + d < S.length by omega), stp_none b P h d (by omega)]
theorem prv_stp {b : Bk} {P : List Smp} {S : List Smp} : prv b P S = (decide (0 < S.length) && match stp b P S S.length with
    | none => false
    | some r => decide (r.1 = bgnL b P S) && decide (r.2 < 0)) := by
  cases S with
  | nil => rfl
  | cons x S =>
    unfold prv stp bgnL
    rw [List.take_length]
    simp
    rfl
theorem prv_none {b : Bk} {P : List Smp} {S : List Smp} {k : Nat} (hk : k ≤ S.length) (h : stp b P S k = none) : prv b P S = false := by
  have := stp_none b P h (S.length - k) (by omega)
  rw [show k + (S.length - k) = S.length by omega] at this
  rw [prv_stp, this]
  simp
theorem edgO_bd {b : Bk} {P : List Smp} {st : Smp} {e : Int × Int × Int} (hb : BkOk b) (hP : PsOk P) (h : edgO b P st = some e) : -16777216 ≤ e.2.2 ∧ e.2.2 ≤ 16777216 := by
  have h1 := hP.at_ st.2.toNat
  have h2 := hP.at_ (st.2.toNat - b.per.toNat)
  have := hb.core
  have := hb.corim
  have := hb.rim
  have := hb.land1
  have := hb.land2
  have := hb.slow
  have := hb.slowfast
  have := hb.fast
  unfold edgO wLand at h
  split at h
  · cases h
  · split at h
    · cases h; dsimp only; omega
    · split at h
      · cases h; dsimp only; omega
      · split at h
        · cases h; dsimp only; omega
        · split at h
          · cases h; dsimp only; omega
          · split at h
            · cases h; dsimp only; omega
            · cases h
/-- The error of steps. -/
def crfE (b : Bk) (P S : List Smp) : Int := if erL b P = 0 then (if 16384 < S.length then 6 else if prv b P S = true then 0 else 16) else erL b P
theorem orL_q {q : Int} : orL [q] = q := by unfold orL orL; split <;> omega

set_option maxRecDepth 100000 in
set_option maxHeartbeats 8000000 in
theorem refproves_any (B : Nat) (A AS : Option Addr) (n c m d : Nat) (b : Bk) (P S : List Smp) (w : World) (h0 : RS w B A n P) (h1 : RS w B AS m S) (hB : B ≤ w.heap.size) (hn : n ≤ 4096) (hm : m ≤ 16384) (hb : BkOk b) (hP : PsOk P) :
    Calls Try.prog 53 #[.agg #[.int .i64 b.per, .int .i64 b.rim, .int .i64 b.core, .int .i64 b.land, .int .i64 b.slow, .int .i64 b.fast], .slice A n c, .slice AS m d] w fun e w' => e = .returned (.bool (prv b P S)) ∧ Below w.heap.size w w' := by
  have HP := Lib.hid (h0.more hB)
  have HS := Lib.hid (h1.more hB)
  have HN := Lib.hid h0.1
  have HM := Lib.hid h1.1
  clear h0 h1 hB
  go_enter Try.func53, Try.ntmps53
  go_upto_region 1 with fail
  obtain ⟨w0, hW⟩ : ∃ W, w.alloc (.cells #[.int .i64 b.per, .int .i64 b.rim, .int .i64 b.core, .int .i64 b.land, .int .i64 b.slow, .int .i64 b.fast] 23) = W := ⟨_, rfl⟩
  have hb0 : Below w.heap.size w w0 := by rw [← hW]; exact below_a _ _
  have k0 : Blk w0 w.heap.size 23 #[.int .i64 b.per, .int .i64 b.rim, .int .i64 b.core, .int .i64 b.land, .int .i64 b.slow, .int .i64 b.fast] := by rw [← hW]; exact Blk.new _ _ _
  rw [hW]
  have HB := Lib.hid hb0
  have HK := Lib.hid k0
  obtain ⟨c0, c1, c2, c3, c4, c5⟩ := k0.six
  clear hW hb0 k0
  have HOK := Lib.hid (And.intro hb hP)
  clear hb hP
  go_wp2_with fail
  obtain ⟨ws, hws⟩ : ∃ W, w0 = W := ⟨_, rfl⟩
  rw [hws] at HK HB c0 c1 c2 c3 c4 c5 ⊢
  clear hws
  go_loopw [7, 8, 9, 10] (fun sv lv bv z wr => ∃ (k : Nat) (s l a : Int), k ≤ m ∧ sv = .int .i64 s ∧ lv = .int .i64 l ∧ bv = .int .i64 a ∧ z = .int .i64 k ∧ -(16777216 * (k : Int)) ≤ s ∧ s ≤ 16777216 * (k : Int) ∧ Hid (k = 0 → s = 0) ∧ Hid (0 < k → stp b P S k = some (l, s) ∧ a = bgnL b P S) ∧ Hid (Blk wr w.heap.size 23 #[.int .i64 b.per, .int .i64 b.rim, .int .i64 b.core, .int .i64 b.land, .int .i64 b.slow, .int .i64 b.fast]) ∧ Hid (Below w.heap.size w wr)) (fun _ _ _ z _ => m - (intOf z).toNat)
  case atStart => exact ⟨0, 0, 0, 0, Nat.zero_le _, rfl, rfl, rfl, rfl, by omega, by omega, Lib.hid (fun _ => rfl), Lib.hid (fun h => absurd h (by omega)), HK, HB⟩
  case round =>
    clear c0 c1 c2 c3 c4 c5 HK HB
    obtain ⟨k, s, l, a, hk, rfl, rfl, rfl, rfl, hs1, hs2, HZ, HST, HK, HB⟩ := hrel
    obtain ⟨c0, c1, c2, c3, c4, c5⟩ := HK.out.six
    by_cases hlt : k < m
    · obtain ⟨ad, hA, hbl, g1, g2⟩ := (HS.out.below HB.out (Nat.le_refl _)).hx hlt
      subst hA
      have hkS : k < S.length := by rw [← HM.out]; exact hlt
      have HXE : Hid (S[k] = hx S k) := Lib.hid (hx_eq hkS).symm
      obtain ⟨st, hst⟩ : ∃ x, hx S k = x := ⟨_, rfl⟩
      rw [hst] at g1 g2 HXE
      obtain ⟨r, i⟩ := st
      have HX := Lib.hid hst
      have HNX := Lib.hid (stp_succ b P hkS)
      clear hst
      go_wp2_with fail
      refine wp_region_held_drew (S := fun w' => w'.cell? ⟨w.heap.size, 0, none⟩ = some (.int .i64 b.per) ∧ w'.cell? ⟨w.heap.size, 1, none⟩ = some (.int .i64 b.rim) ∧ w'.cell? ⟨w.heap.size, 2, none⟩ = some (.int .i64 b.core) ∧ w'.cell? ⟨w.heap.size, 3, none⟩ = some (.int .i64 b.land) ∧ w'.cell? ⟨w.heap.size, 4, none⟩ = some (.int .i64 b.slow) ∧ w'.cell? ⟨w.heap.size, 5, none⟩ = some (.int .i64 b.fast) ∧ w'.cell? (ad.add (k * 2)) = some (.int .i64 r) ∧ w'.cell? ⟨(ad.add (k * 2)).block, (ad.add (k * 2)).off + 1, none⟩ = some (.int .i64 i)) (by kernel_rfl) ⟨c0, c1, c2, c3, c4, c5, g1, g2⟩ (fun hHeld => ?_)
      obtain ⟨wd, hwd⟩ : ∃ wd, wr.drew = wd := ⟨_, rfl⟩
      have hb : Below wr.heap.size wr wd := by rw [← hwd]; exact (Below.refl _ _).drew
      rw [hwd] at hHeld ⊢
      clear hwd g1 g2
      replace HK := Lib.hid (HK.out.below hb HK.out.lt)
      replace HB := Lib.hid (HB.out.trans (hb.mono HB.out.size))
      clear hb c0 c1 c2 c3 c4 c5
      obtain ⟨c0, c1, c2, c3, c4, c5⟩ := HK.out.six
      obtain ⟨ad', hA', -, g1, g2⟩ := (HS.out.below HB.out (Nat.le_refl _)).hx hlt
      cases hA'
      rw [HX.out] at g1 g2
      refine wpAnyH_take (i := 0) (oi := { dst := some 22, op := Go.Op.load 23 (Go.Operand.tmp 3), type := 23, pos := "ref.go:160", after := #[], guard := none }) (v := ?vt1001) rfl (by kernel_rfl) (by kernel_rfl) (by kernel_rfl) (fun _ _ _ h => h) (Or.inl ⟨by rfl, ?ht1001⟩) hHeld ?_
      case ht1001 => intro w hSw; obtain ⟨s1, s2, s3, s4, s5, s6, s7, s8⟩ := hSw; go_simp; try with_reducible rfl
      simp only [Act.put, List.setIfInBounds_toArray, List.set_cons_zero, List.set_cons_succ]
      refine wpAnyH_take (i := 1) (oi := { dst := some 23, op := Go.Op.move (Go.Operand.tmp 1), type := 24, pos := "ref.go:160", after := #[], guard := none }) (v := ?vt1002) rfl (by kernel_rfl) (by kernel_rfl) (by kernel_rfl) (fun _ _ _ h => h) (Or.inl ⟨by rfl, ?ht1002⟩) hHeld ?_
      case ht1002 => intro w hSw; obtain ⟨s1, s2, s3, s4, s5, s6, s7, s8⟩ := hSw; go_simp; try with_reducible rfl
      simp only [Act.put, List.setIfInBounds_toArray, List.set_cons_zero, List.set_cons_succ]
      refine wpAnyH_take (i := 2) (oi := { dst := some 24, op := Go.Op.move (Go.Operand.tmp 2), type := 36, pos := "ref.go:160", after := #[], guard := none }) (v := ?vt1003) rfl (by kernel_rfl) (by kernel_rfl) (by kernel_rfl) (fun _ _ _ h => h) (Or.inl ⟨by rfl, ?ht1003⟩) hHeld ?_
      case ht1003 => intro w hSw; obtain ⟨s1, s2, s3, s4, s5, s6, s7, s8⟩ := hSw; go_simp; try with_reducible rfl
      simp only [Act.put, List.setIfInBounds_toArray, List.set_cons_zero, List.set_cons_succ]
      refine wpAnyH_take (i := 3) (oi := { dst := some 25, op := Go.Op.move (Go.Operand.tmp 10), type := 3, pos := "ref.go:160", after := #[], guard := none }) (v := ?vt1004) rfl (by kernel_rfl) (by kernel_rfl) (by kernel_rfl) (fun _ _ _ h => h) (Or.inl ⟨by rfl, ?ht1004⟩) hHeld ?_
      case ht1004 => intro w hSw; obtain ⟨s1, s2, s3, s4, s5, s6, s7, s8⟩ := hSw; go_simp; try with_reducible rfl
      simp only [Act.put, List.setIfInBounds_toArray, List.set_cons_zero, List.set_cons_succ]
      refine wpAnyH_take (i := 4) (oi := { dst := some 26, op := Go.Op.indexAddr 36 (Go.Operand.tmp 24) (Go.Operand.tmp 25), type := 0, pos := "ref.go:160", after := #[{ on := 2, ground := Go.Ground.data }, { on := 3, ground := Go.Ground.data }], guard := none }) (v := ?vt1005) rfl (by kernel_rfl) (by kernel_rfl) (by kernel_rfl) (fun _ _ _ h => h) (Or.inl ⟨by rfl, ?ht1005⟩) hHeld ?_
      case ht1005 => intro w hSw; obtain ⟨s1, s2, s3, s4, s5, s6, s7, s8⟩ := hSw; go_simp; try with_reducible rfl
      simp only [Act.put, List.setIfInBounds_toArray, List.set_cons_zero, List.set_cons_succ]
      refine wpAnyH_take (i := 5) (oi := { dst := some 27, op := Go.Op.load 52 (Go.Operand.tmp 26), type := 52, pos := "ref.go:160", after := #[{ on := 4, ground := Go.Ground.data }], guard := none }) (v := ?vt1006) rfl (by kernel_rfl) (by kernel_rfl) (by kernel_rfl) (fun _ _ _ h => h) (Or.inl ⟨by rfl, ?ht1006⟩) hHeld ?_
      case ht1006 => intro w hSw; obtain ⟨s1, s2, s3, s4, s5, s6, s7, s8⟩ := hSw; go_simp; try with_reducible rfl
      simp only [Act.put, List.setIfInBounds_toArray, List.set_cons_zero, List.set_cons_succ]
      refine wpAnyH_ready (rs := [6]) (by kernel_rfl) (by simp) ?_
      refine AllReadyH.cons rfl (fun K hK => ?_) AllReadyH.nil
      go_simp
      have CALL := Weigh_any w.heap.size A n c b P r i wd (HP.out.below HB.out (Nat.le_refl _)) HB.out.size hn HOK.out.1 HOK.out.2
      refine CALL.mono ?_
      rintro e w4 ⟨f, t, g, ok, rfl, hwg, hb⟩
      clear CALL g1 g2
      have HWG := Lib.hid hwg
      clear hwg
      replace HK := Lib.hid (HK.out.below hb HK.out.lt)
      replace HB := Lib.hid (HB.out.trans (hb.mono HB.out.size))
      clear hb c0 c1 c2 c3 c4 c5
      obtain ⟨c0, c1, c2, c3, c4, c5⟩ := HK.out.six
      obtain ⟨ad', hA', -, g1, g2⟩ := (HS.out.below HB.out (Nat.le_refl _)).hx hlt
      cases hA'
      rw [HX.out] at g1 g2
      refine hK.out _ _ ?_ (fun hH1007 => ?_)
      · exact ⟨c0, c1, c2, c3, c4, c5, g1, g2⟩
      clear hK K
      refine wpAnyH_take (i := 7) (oi := { dst := some 21, op := Go.Op.move (Go.Operand.tmp 28), type := 106, pos := "ref.go:160", after := #[{ on := 6, ground := Go.Ground.data }], guard := none }) (v := ?vt1008) rfl (by kernel_rfl) (by kernel_rfl) (by kernel_rfl) (fun _ _ _ h => h) (Or.inl ⟨by rfl, ?ht1008⟩) hH1007 ?_
      case ht1008 => intro w hSw; obtain ⟨s1, s2, s3, s4, s5, s6, s7, s8⟩ := hSw; go_simp; try with_reducible rfl
      simp only [Act.put, List.setIfInBounds_toArray, List.set_cons_zero, List.set_cons_succ]
      refine wpAnyH_take (i := 8) (oi := { dst := some 29, op := Go.Op.extract (Go.Operand.tmp 21) 0, type := 3, pos := "ref.go:160", after := #[{ on := 7, ground := Go.Ground.data }], guard := none }) (v := ?vt1009) rfl (by kernel_rfl) (by kernel_rfl) (by kernel_rfl) (fun _ _ _ h => h) (Or.inl ⟨by rfl, ?ht1009⟩) hH1007 ?_
      case ht1009 => intro w hSw; obtain ⟨s1, s2, s3, s4, s5, s6, s7, s8⟩ := hSw; go_simp; try with_reducible rfl
      simp only [Act.put, List.setIfInBounds_toArray, List.set_cons_zero, List.set_cons_succ]
      refine wpAnyH_take (i := 9) (oi := { dst := some 30, op := Go.Op.extract (Go.Operand.tmp 21) 1, type := 3, pos := "ref.go:160", after := #[{ on := 7, ground := Go.Ground.data }, { on := 12, ground := Go.Ground.gcOnly Go.Departure.lateStores }], guard := none }) (v := ?vt1010) rfl (by kernel_rfl) (by kernel_rfl) (by kernel_rfl) (fun _ _ _ h => h) (Or.inl ⟨by rfl, ?ht1010⟩) hH1007 ?_
      case ht1010 => intro w hSw; obtain ⟨s1, s2, s3, s4, s5, s6, s7, s8⟩ := hSw; go_simp; try with_reducible rfl
      simp only [Act.put, List.setIfInBounds_toArray, List.set_cons_zero, List.set_cons_succ]
      refine wpAnyH_take (i := 10) (oi := { dst := some 31, op := Go.Op.extract (Go.Operand.tmp 21) 2, type := 2, pos := "ref.go:160", after := #[{ on := 7, ground := Go.Ground.data }, { on := 13, ground := Go.Ground.gcOnly Go.Departure.lateStores }], guard := none }) (v := ?vt1011) rfl (by kernel_rfl) (by kernel_rfl) (by kernel_rfl) (fun _ _ _ h => h) (Or.inl ⟨by rfl, ?ht1011⟩) hH1007 ?_
      case ht1011 => intro w hSw; obtain ⟨s1, s2, s3, s4, s5, s6, s7, s8⟩ := hSw; go_simp; try with_reducible rfl
      simp only [Act.put, List.setIfInBounds_toArray, List.set_cons_zero, List.set_cons_succ]
      refine wpAnyH_take (i := 11) (oi := { dst := some 32, op := Go.Op.extract (Go.Operand.tmp 21) 3, type := 4, pos := "ref.go:160", after := #[{ on := 7, ground := Go.Ground.data }, { on := 14, ground := Go.Ground.gcOnly Go.Departure.lateStores }], guard := none }) (v := ?vt1012) rfl (by kernel_rfl) (by kernel_rfl) (by kernel_rfl) (fun _ _ _ h => h) (Or.inl ⟨by rfl, ?ht1012⟩) hH1007 ?_
      case ht1012 => intro w hSw; obtain ⟨s1, s2, s3, s4, s5, s6, s7, s8⟩ := hSw; go_simp; try with_reducible rfl
      simp only [Act.put, List.setIfInBounds_toArray, List.set_cons_zero, List.set_cons_succ]
      refine wpAnyH_take (i := 12) (oi := { dst := some 11, op := Go.Op.assign (Go.Operand.tmp 29), type := 3, pos := "ref.go:160", after := #[{ on := 8, ground := Go.Ground.data }, { on := 6, ground := Go.Ground.chain }, { on := 0, ground := Go.Ground.phase }, { on := 1, ground := Go.Ground.phase }, { on := 2, ground := Go.Ground.phase }, { on := 3, ground := Go.Ground.phase }, { on := 4, ground := Go.Ground.phase }, { on := 5, ground := Go.Ground.phase }, { on := 6, ground := Go.Ground.phase }, { on := 7, ground := Go.Ground.phase }, { on := 8, ground := Go.Ground.phase }, { on := 9, ground := Go.Ground.textOnly Go.Departure.lateStores }, { on := 10, ground := Go.Ground.textOnly Go.Departure.lateStores }, { on := 11, ground := Go.Ground.textOnly Go.Departure.lateStores }], guard := none }) (v := ?vt1013) rfl (by kernel_rfl) (by kernel_rfl) (by kernel_rfl) (fun _ _ _ h => h) (Or.inl ⟨by rfl, ?ht1013⟩) hH1007 ?_
      case ht1013 => intro w hSw; obtain ⟨s1, s2, s3, s4, s5, s6, s7, s8⟩ := hSw; go_simp; try with_reducible rfl
      simp only [Act.put, List.setIfInBounds_toArray, List.set_cons_zero, List.set_cons_succ]
      refine wpAnyH_take (i := 13) (oi := { dst := some 12, op := Go.Op.assign (Go.Operand.tmp 30), type := 3, pos := "ref.go:160", after := #[{ on := 9, ground := Go.Ground.data }, { on := 12, ground := Go.Ground.chain }, { on := 0, ground := Go.Ground.phase }, { on := 1, ground := Go.Ground.phase }, { on := 2, ground := Go.Ground.phase }, { on := 3, ground := Go.Ground.phase }, { on := 4, ground := Go.Ground.phase }, { on := 5, ground := Go.Ground.phase }, { on := 6, ground := Go.Ground.phase }, { on := 7, ground := Go.Ground.phase }, { on := 8, ground := Go.Ground.phase }, { on := 9, ground := Go.Ground.phase }, { on := 10, ground := Go.Ground.textOnly Go.Departure.lateStores }, { on := 11, ground := Go.Ground.textOnly Go.Departure.lateStores }, { on := 12, ground := Go.Ground.phase }], guard := none }) (v := ?vt1014) rfl (by kernel_rfl) (by kernel_rfl) (by kernel_rfl) (fun _ _ _ h => h) (Or.inl ⟨by rfl, ?ht1014⟩) hH1007 ?_
      case ht1014 => intro w hSw; obtain ⟨s1, s2, s3, s4, s5, s6, s7, s8⟩ := hSw; go_simp; try with_reducible rfl
      simp only [Act.put, List.setIfInBounds_toArray, List.set_cons_zero, List.set_cons_succ]
      refine wpAnyH_take (i := 14) (oi := { dst := some 13, op := Go.Op.assign (Go.Operand.tmp 31), type := 2, pos := "ref.go:160", after := #[{ on := 10, ground := Go.Ground.data }, { on := 13, ground := Go.Ground.chain }, { on := 0, ground := Go.Ground.phase }, { on := 1, ground := Go.Ground.phase }, { on := 2, ground := Go.Ground.phase }, { on := 3, ground := Go.Ground.phase }, { on := 4, ground := Go.Ground.phase }, { on := 5, ground := Go.Ground.phase }, { on := 6, ground := Go.Ground.phase }, { on := 7, ground := Go.Ground.phase }, { on := 8, ground := Go.Ground.phase }, { on := 9, ground := Go.Ground.phase }, { on := 10, ground := Go.Ground.phase }, { on := 11, ground := Go.Ground.textOnly Go.Departure.lateStores }, { on := 12, ground := Go.Ground.phase }, { on := 13, ground := Go.Ground.phase }], guard := none }) (v := ?vt1015) rfl (by kernel_rfl) (by kernel_rfl) (by kernel_rfl) (fun _ _ _ h => h) (Or.inl ⟨by rfl, ?ht1015⟩) hH1007 ?_
      case ht1015 => intro w hSw; obtain ⟨s1, s2, s3, s4, s5, s6, s7, s8⟩ := hSw; go_simp; try with_reducible rfl
      simp only [Act.put, List.setIfInBounds_toArray, List.set_cons_zero, List.set_cons_succ]
      refine wpAnyH_take (i := 15) (oi := { dst := some 14, op := Go.Op.assign (Go.Operand.tmp 32), type := 4, pos := "ref.go:160", after := #[{ on := 11, ground := Go.Ground.data }, { on := 14, ground := Go.Ground.chain }, { on := 0, ground := Go.Ground.phase }, { on := 1, ground := Go.Ground.phase }, { on := 2, ground := Go.Ground.phase }, { on := 3, ground := Go.Ground.phase }, { on := 4, ground := Go.Ground.phase }, { on := 5, ground := Go.Ground.phase }, { on := 6, ground := Go.Ground.phase }, { on := 7, ground := Go.Ground.phase }, { on := 8, ground := Go.Ground.phase }, { on := 9, ground := Go.Ground.phase }, { on := 10, ground := Go.Ground.phase }, { on := 11, ground := Go.Ground.phase }, { on := 12, ground := Go.Ground.phase }, { on := 13, ground := Go.Ground.phase }, { on := 14, ground := Go.Ground.phase }], guard := none }) (v := ?vt1016) rfl (by kernel_rfl) (by kernel_rfl) (by kernel_rfl) (fun _ _ _ h => h) (Or.inl ⟨by rfl, ?ht1016⟩) hH1007 ?_
      case ht1016 => intro w hSw; obtain ⟨s1, s2, s3, s4, s5, s6, s7, s8⟩ := hSw; go_simp; try with_reducible rfl
      simp only [Act.put, List.setIfInBounds_toArray, List.set_cons_zero, List.set_cons_succ]
      refine wpAnyH_done (by kernel_rfl) ?_ _
      cases hE : edgO b P (r, i) with
      | none =>
        have hok := HWG.out
        unfold WgOk at hok
        rw [hE] at hok
        have hok : ok = false := hok
        subst hok
        have HV : Hid (prv b P S = false) := Lib.hid (prv_none (show k + 1 ≤ S.length by omega) (by
          rw [HNX.out, HXE.out, hE]
          cases stp b P S k <;> rfl))
        clear hE HWG
        go_wp2_with fail
        go_ret
        rw [HV.out]
        exact ⟨rfl, HB.out⟩
      | some e =>
        have hok := HWG.out
        unfold WgOk at hok
        rw [hE] at hok
        obtain ⟨rfl, rfl, rfl, rfl⟩ := (show ok = true ∧ f = e.1 ∧ t = e.2.1 ∧ g = e.2.2 from hok)
        have hgb := edgO_bd HOK.out.1 HOK.out.2 hE
        obtain ⟨f, t, g⟩ := e
        dsimp only at hgb ⊢
        rw [HXE.out, hE] at HNX
        have HNX : Hid (stp b P S (k + 1) = match stp b P S k with | none => none | some r => if f ≠ r.1 ∨ (0 < k ∧ r.1 = -1) then none else some (t, r.2 + g)) := Lib.hid HNX.out
        have HB0 : Hid (k = 0 → bgnL b P S = f) := Lib.hid (fun h => by
          subst h
          have : bgnL b P S = bgn b P S[0] := by
            cases S with
            | nil => simp at hkS
            | cons x S => rfl
          rw [this, HXE.out]
          unfold bgn
          rw [hE])
        have e1 : IntKind.i64.wrap (s + g) = s + g := IntWalk.i64_in _ (by omega)
        clear hE HWG hok
        by_cases hk0 : k = 0
        · subst hk0
          have HST2 : Hid (stp b P S (0 + 1) = some (t, s + g) ∧ f = bgnL b P S) := Lib.hid ⟨by
            rw [HNX.out, stp_zero]
            show (if f ≠ bgnL b P S ∨ (0 < 0 ∧ bgnL b P S = -1) then none else some (t, 0 + g)) = _
            rw [if_neg (by rw [HB0.out rfl]; simp), HZ.out rfl], (HB0.out rfl).symm⟩
          clear HNX HB0 HST
          go_wp2_with fail
          go_roundw
          case rel => exact ⟨1, s + g, t, f, by omega, rfl, rfl, rfl, by go_num, by omega, by omega, Lib.hid (fun h => absurd h (by omega)), Lib.hid (fun _ => HST2.out), HK, HB⟩
          case measure => simp [intOf]; omega
        · have hk1 : (k : Int) > 0 := by omega
          have hk2 : ((k : Int) == 0) = false := by simp; omega
          obtain ⟨q1, q2⟩ := HST.out (by omega)
          rw [q1] at HNX
          have HNX : Hid (stp b P S (k + 1) = if f ≠ l ∨ (0 < k ∧ l = -1) then none else some (t, s + g)) := Lib.hid HNX.out
          have HQ2 := Lib.hid q2
          clear q1 q2
          by_cases hfl : f = l
          · subst hfl
            by_cases hf1 : f = -1
            · subst hf1
              have HV : Hid (prv b P S = false) := Lib.hid (prv_none (show k + 1 ≤ S.length by omega) (by rw [HNX.out, if_pos (.inr ⟨by omega, rfl⟩)]))
              clear HNX HB0 HST
              go_wp2_with fail
              go_ret
              rw [HV.out]
              exact ⟨rfl, HB.out⟩
            · have hf2 : (f == -1) = false := beq_eq_false_iff_ne.2 hf1
              have HST2 : Hid (stp b P S (k + 1) = some (t, s + g)) := Lib.hid (by rw [HNX.out, if_neg (by intro h; rcases h with h | h; exact h rfl; exact hf1 h.2)])
              clear HNX HB0 HST
              go_wp2_with fail
              go_roundw
              case rel => exact ⟨k + 1, s + g, t, a, by omega, rfl, rfl, rfl, by go_num, by omega, by omega, Lib.hid (fun h => absurd h (by omega)), Lib.hid (fun _ => ⟨HST2.out, HQ2.out⟩), HK, HB⟩
              case measure => simp [intOf]; omega
          · have hf2 : (f != l) = true := by simpa using hfl
            have HV : Hid (prv b P S = false) := Lib.hid (prv_none (show k + 1 ≤ S.length by omega) (by rw [HNX.out, if_pos (.inl hfl)]))
            clear HNX HB0 HST
            go_wp2_with fail
            go_ret
            rw [HV.out]
            exact ⟨rfl, HB.out⟩
    · obtain rfl : m = k := by omega
      by_cases hm0 : m = 0
      · subst hm0
        have HV : Hid (prv b P S = false) := Lib.hid (by rw [prv_stp, ← HM.out]; simp)
        go_wp2_with fail
        go_ret
        rw [HV.out]
        exact ⟨rfl, HB.out⟩
      · have hm1 : (m : Int) > 0 := by omega
        obtain ⟨q1, rfl⟩ := HST.out (by omega)
        have HV : Hid (prv b P S = (decide (l = bgnL b P S) && decide (s < 0))) := Lib.hid (by rw [prv_stp, ← HM.out, q1, decide_eq_true (show 0 < m by omega), Bool.true_and])
        obtain ⟨a, ha⟩ : ∃ a, bgnL b P S = a := ⟨_, rfl⟩
        rw [ha] at HV ⊢
        clear q1 HST ha
        by_cases c1 : a = l
        · subst c1
          have c2 : (a == a) = true := by simp
          go_wp2_with fail
          go_ret
          rw [HV.out]
          exact ⟨ret_b (by simp), HB.out⟩
        · have c2 : (a == l) = false := beq_eq_false_iff_ne.2 c1
          have c3 : ¬ l = a := fun h => c1 h.symm
          go_wp2_with fail
          go_ret
          rw [HV.out]
          exact ⟨ret_b (by simp [c3]), HB.out⟩

set_option maxRecDepth 100000 in
set_option maxHeartbeats 8000000 in
theorem refCheckRefusal_any (B : Nat) (A AS : Option Addr) (n c m d : Nat) (b : Bk) (P S : List Smp) (w : World) (h0 : RS w B A n P) (h1 : RS w B AS m S) (hB : B ≤ w.heap.size) (hl : n ≤ 9223372036854775807) (hl' : m ≤ 9223372036854775807) :
    Calls Try.prog 26 #[.agg #[.int .i64 b.per, .int .i64 b.rim, .int .i64 b.core, .int .i64 b.land, .int .i64 b.slow, .int .i64 b.fast], .slice A n c, .slice AS m d] w fun e w' => e = .returned (.int .i64 (crfE b P S)) ∧ Below w.heap.size w w' := by
  have HP := Lib.hid (h0.more hB)
  have HS := Lib.hid (h1.more hB)
  have HN := Lib.hid h0.1
  have HM := Lib.hid h1.1
  clear h0 h1 hB
  go_enter Try.func26, Try.ntmps26
  go_upto_region 1 with fail
  obtain ⟨w0, hW⟩ : ∃ W, w.alloc (.cells #[.int .i64 b.per, .int .i64 b.rim, .int .i64 b.core, .int .i64 b.land, .int .i64 b.slow, .int .i64 b.fast] 23) = W := ⟨_, rfl⟩
  have hb0 : Below w.heap.size w w0 := by rw [← hW]; exact below_a _ _
  have k0 : Blk w0 w.heap.size 23 #[.int .i64 b.per, .int .i64 b.rim, .int .i64 b.core, .int .i64 b.land, .int .i64 b.slow, .int .i64 b.fast] := by rw [← hW]; exact Blk.new _ _ _
  rw [hW]
  have HB := Lib.hid hb0
  have HK := Lib.hid k0
  obtain ⟨c0, c1, c2, c3, c4, c5⟩ := k0.six
  clear hW hb0 k0
  have CB := Lib.hid (fun (W : World) (h : Below w.heap.size w W) => refboth_any w.heap.size A n c b P W (HP.out.below h (Nat.le_refl _)) h.size hl)
  obtain ⟨q, hq⟩ : ∃ q, erL b P = q := ⟨_, rfl⟩
  rw [hq] at CB
  have HQ := Lib.hid hq
  replace CB := Lib.hid CB.out
  clear hq
  by_cases h0 : q = 0
  · subst h0
    obtain ⟨hb, hOk, hn⟩ := erL_ok HQ.out
    have HX := Lib.hid (And.intro hb hOk)
    have hn' : n ≤ 4096 := by rw [HN.out]; exact hn
    clear hb hOk hn
    by_cases hm : 16384 < m
    · have hm1 : (m : Int) > 16384 := by omega
      have HE : Hid (crfE b P S = 6) := Lib.hid (by unfold crfE; rw [if_pos HQ.out, if_pos (by rw [← HM.out]; exact hm)])
      go_wp2_with fail
      refine (CB.out _ HB.out).mono ?_
      rintro e w1 ⟨rfl, hb⟩
      replace HK := Lib.hid (HK.out.below hb HK.out.lt)
      replace HB := Lib.hid (HB.out.trans (hb.mono HB.out.size))
      clear hb c0 c1 c2 c3 c4 c5
      obtain ⟨c0, c1, c2, c3, c4, c5⟩ := HK.out.six
      go_wp2
      go_ret
      rw [HE.out]
      exact ⟨rfl, HB.out⟩
    · have hm1 : ¬ (m : Int) > 16384 := by omega
      have HE : Hid (crfE b P S = if prv b P S = true then 0 else 16) := Lib.hid (by unfold crfE; rw [if_pos HQ.out, if_neg (by rw [← HM.out]; exact hm)])
      go_wp2_with fail
      refine (CB.out _ HB.out).mono ?_
      rintro e w1 ⟨rfl, hb⟩
      replace HK := Lib.hid (HK.out.below hb HK.out.lt)
      replace HB := Lib.hid (HB.out.trans (hb.mono HB.out.size))
      clear hb c0 c1 c2 c3 c4 c5
      obtain ⟨c0, c1, c2, c3, c4, c5⟩ := HK.out.six
      go_wp2_with fail
      have CALL := refproves_any w.heap.size A AS n c m d b P S w1 (HP.out.below HB.out (Nat.le_refl _)) (HS.out.below HB.out (Nat.le_refl _)) HB.out.size hn' (by omega) HX.out.1 HX.out.2
      refine CALL.mono ?_
      rintro e w2 ⟨rfl, hb⟩
      clear CALL
      replace HK := Lib.hid (HK.out.below hb HK.out.lt)
      replace HB := Lib.hid (HB.out.trans (hb.mono HB.out.size))
      clear hb c0 c1 c2 c3 c4 c5
      obtain ⟨c0, c1, c2, c3, c4, c5⟩ := HK.out.six
      cases hv : prv b P S with
      | false =>
        have HE : Hid (crfE b P S = 16) := Lib.hid (by rw [HE.out, if_neg (by rw [hv]; simp)])
        clear hv
        go_wp2
        go_ret
        rw [HE.out]
        exact ⟨rfl, HB.out⟩
      | true =>
        have HE : Hid (crfE b P S = 0) := Lib.hid (by rw [HE.out, if_pos hv])
        clear hv
        go_wp2
        go_ret
        rw [HE.out]
        exact ⟨rfl, HB.out⟩
  · have h1 : (q != 0) = true := by simpa using h0
    have HE : Hid (crfE b P S = q) := Lib.hid (by unfold crfE; rw [if_neg (by rw [HQ.out]; exact h0)]; exact HQ.out)
    clear h0
    go_wp2_with fail
    refine (CB.out _ HB.out).mono ?_
    rintro e w1 ⟨rfl, hb⟩
    replace HK := Lib.hid (HK.out.below hb HK.out.lt)
    replace HB := Lib.hid (HB.out.trans (hb.mono HB.out.size))
    clear hb c0 c1 c2 c3 c4 c5
    obtain ⟨c0, c1, c2, c3, c4, c5⟩ := HK.out.six
    go_wp2_with fail
    refine (CB.out _ HB.out).mono ?_
    rintro e w2 ⟨rfl, hb⟩
    replace HK := Lib.hid (HK.out.below hb HK.out.lt)
    replace HB := Lib.hid (HB.out.trans (hb.mono HB.out.size))
    clear hb c0 c1 c2 c3 c4 c5
    obtain ⟨c0, c1, c2, c3, c4, c5⟩ := HK.out.six
    go_wp2
    go_ret
    rw [HE.out]
    exact ⟨rfl, HB.out⟩
end Go.Proofs.Ytgdkcbnpgpjnbaa
