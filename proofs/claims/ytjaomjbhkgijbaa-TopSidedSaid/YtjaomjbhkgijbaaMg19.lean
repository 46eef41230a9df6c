/-
  Contracts of Least and Needs.
-/
import Derived.Test.YtjaomjbhkgijbaaMg18

namespace Go.Proofs.Ytjaomjbhkgijbaa
open Go.RowKit

theorem reads_three {w : World} {g : Nat} {t : TypeId} {a b c : Int} {B : Nat} (h : Blk w g t #[.int .i64 a, .int .i64 b, .int .i64 c]) (hB : g < B) : Reads w B 1 (some ⟨g, 0, none⟩) 3 ([a, b, c].map (Value.int .i64)) := reads_cells h hB rfl rfl

/-- The first error of Least. -/
def lsEr (c : Ctr) (l : List Smp) (per : Int) : Int := orL [ckC c, ckG l, ckTn per]
def lsQ (c : Ctr) (l : List Smp) (per : Int) (v er : Int) : Prop :=
  if lsEr c l per = 0 then LeastIs (fun r => fls c l r per) v er else v = 0 ∧ er = lsEr c l per
def ndQ (c : Ctr) (l : List Smp) (per i : Int) (v er : Int) : Prop :=
  if lsEr c l per = 0 then (if i < 0 ∨ (l.length : Int) ≤ i then v = 0 ∧ er = 3 else LeastIs (fun r => brk c l r per i.toNat == 0) v er) else v = 0 ∧ er = lsEr c l per
theorem ckG_ok {l : List Smp} (h : ckG l = 0) : ∀ p ∈ l, EdOk p := by
  unfold ckG at h
  split at h
  · omega
  · split at h
    · rename_i hv; exact edOk_all hv
    · omega
theorem ckN_ok {lo x hi : Int} (h : ckN lo x hi = 0) : lo ≤ x ∧ x ≤ hi := by
  unfold ckN win at h
  split at h
  · rename_i hv; simpa using hv
  · omega
theorem ls_ok {c : Ctr} {l : List Smp} {per : Int} (h : lsEr c l per = 0) : CtOk c ∧ (∀ p ∈ l, EdOk p) ∧ 1 ≤ per ∧ per ≤ 65536 := by
  have h' := orL_zero h
  exact ⟨ckC_ok (h' _ (by simp)), ckG_ok (h' _ (by simp)), ckN_ok (h' (ckTn per) (by simp))⟩
theorem fls_mono {c : Ctr} {l : List Smp} {per : Int} (hc : CtOk c) (h1 : 1 ≤ per) (h2 : per ≤ 65536) : Mono_ (fun r => fls c l r per) := by
  intro a b h3 h4 h5 h
  have h : fls c l a per = true := h
  show fls c l b per = true
  rw [fls_ok hc ⟨h3, by omega, h1, h2⟩] at h
  rw [fls_ok hc ⟨by omega, h5, h1, h2⟩]
  exact okG_mono (Milder.refl c) hc hc h3 h4 h1 (Int.le_refl _) h
theorem brk_mono {c : Ctr} {l : List Smp} {per : Int} {i : Nat} (hc : CtOk c) (h1 : 1 ≤ per) (h2 : per ≤ 65536) : Mono_ (fun r => brk c l r per i == 0) := by
  intro a b h3 h4 h5 h
  have h : (brk c l a per i == 0) = true := h
  show (brk c l b per i == 0) = true
  rw [beq_iff_eq, brk_zero hc ⟨h3, by omega, h1, h2⟩] at h
  rw [beq_iff_eq, brk_zero hc ⟨by omega, h5, h1, h2⟩]
  exact ⟨h.1, fun q => okS_mono (Milder.refl c) hc h3 h4 h1 (Int.le_refl _) (h.2.1 q), fun q q' => okB_mono (Milder.refl c) hc.y1 h3 h4 h1 (Int.le_refl _) (h.2.2 q q')⟩

set_option maxHeartbeats 1000000 in
theorem Least1_any (B : Nat) (A : Option Addr) (n k : Nat) (c : Ctr) (l : List Smp) (r per : Int) (b0 b1 b2 : Nat) (w : World) (k0 : Blk w b0 73 #[.int .i64 c.half, .int .i64 c.gain, .int .i64 c.thin, .int .i64 c.wide, .int .i64 c.slope, .int .i64 c.jerk, .int .i64 c.stylus]) (k1 : Blk w b1 78 #[.slice A n k]) (k2 : Blk w b2 2 #[.int .i64 per])
    (h0 : RS w B A n l) (hB : B ≤ w.heap.size) (hl : n ≤ 9223372036854775807) (he : ∀ p ∈ l, EdOk p) (hc : CtOk c) (hs : SpOk r per) :
    Calls Try.prog 142 #[.int .i64 r, .pointer (some ⟨b0, 0, none⟩), .pointer (some ⟨b2, 0, none⟩), .pointer (some ⟨b1, 0, none⟩)] w fun e w' => e = .returned (.bool (fls c l r per)) ∧ Below w.heap.size w w' := by
  have FF := Lib.hid (faultless_any B A n k c l r per w h0 hB hl he hc hs)
  obtain ⟨q, hq⟩ : ∃ q, fls c l r per = q := ⟨_, rfl⟩
  rw [hq] at FF ⊢
  have p0 := (k0.cell 0).trans rfl
  have p1 := (k0.cell 1).trans rfl
  have p2 := (k0.cell 2).trans rfl
  have p3 := (k0.cell 3).trans rfl
  have p4 := (k0.cell 4).trans rfl
  have p5 := (k0.cell 5).trans rfl
  have p6 := (k0.cell 6).trans rfl
  have q1 := (k1.cell 0).trans rfl
  have q2 := (k2.cell 0).trans rfl
  clear h0 hB he hc hs hq k0 k1 k2
  go_enter Try.func142, Try.ntmps142
  go_wp2_with fail
  refine FF.out.mono ?_
  rintro e w1 ⟨rfl, hb1⟩
  go_wp2
  go_ret
  exact ⟨rfl, hb1⟩

set_option maxHeartbeats 1000000 in
theorem Needs1_any (B : Nat) (A : Option Addr) (n k : Nat) (c : Ctr) (l : List Smp) (r per : Int) (i : Nat) (b0 b1 b2 b3 : Nat) (w : World) (k0 : Blk w b0 73 #[.int .i64 c.half, .int .i64 c.gain, .int .i64 c.thin, .int .i64 c.wide, .int .i64 c.slope, .int .i64 c.jerk, .int .i64 c.stylus]) (k1 : Blk w b1 78 #[.slice A n k]) (k2 : Blk w b2 2 #[.int .i64 per]) (k3 : Blk w b3 3 #[.int .i64 i])
    (h0 : RS w B A n l) (hB : B ≤ w.heap.size) (hl : n ≤ 9223372036854775807) (hi : i < l.length) (he : ∀ p ∈ l, EdOk p) (hc : CtOk c) (hs : SpOk r per) :
    Calls Try.prog 148 #[.int .i64 r, .pointer (some ⟨b0, 0, none⟩), .pointer (some ⟨b2, 0, none⟩), .pointer (some ⟨b1, 0, none⟩), .pointer (some ⟨b3, 0, none⟩)] w fun e w' => e = .returned (.bool (brk c l r per i == 0)) ∧ Below w.heap.size w w' := by
  have FF := Lib.hid (broken_any B A n k c l r per i w h0 hB hl hi he hc hs)
  obtain ⟨q, hq⟩ : ∃ q, brk c l r per i = q := ⟨_, rfl⟩
  rw [hq] at FF ⊢
  have p0 := (k0.cell 0).trans rfl
  have p1 := (k0.cell 1).trans rfl
  have p2 := (k0.cell 2).trans rfl
  have p3 := (k0.cell 3).trans rfl
  have p4 := (k0.cell 4).trans rfl
  have p5 := (k0.cell 5).trans rfl
  have p6 := (k0.cell 6).trans rfl
  have q1 := (k1.cell 0).trans rfl
  have q2 := (k2.cell 0).trans rfl
  have q3 := (k3.cell 0).trans rfl
  clear h0 hB he hc hs hq hi k0 k1 k2 k3
  go_enter Try.func148, Try.ntmps148
  go_wp2_with fail
  refine FF.out.mono ?_
  rintro e w1 ⟨rfl, hb1⟩
  go_wp2
  go_ret
  exact ⟨rfl, hb1⟩

set_option maxRecDepth 100000 in
set_option maxHeartbeats 8000000 in
theorem Least_any (B : Nat) (A : Option Addr) (n k : Nat) (c : Ctr) (l : List Smp) (per : Int) (w : World) (h0 : RS w B A n l) (hB : B ≤ w.heap.size) (hl : n ≤ 9223372036854775807) :
    Calls Try.prog 73 #[.agg #[.int .i64 c.half, .int .i64 c.gain, .int .i64 c.thin, .int .i64 c.wide, .int .i64 c.slope, .int .i64 c.jerk, .int .i64 c.stylus], .slice A n k, .int .i64 per] w (LePost (lsQ c l per) w) := by
  have HN := Lib.hid h0.1
  have H := Lib.hid (h0.more hB)
  clear h0 hB
  have CP := Lib.hid (fun W (hb : Below w.heap.size w W) => CheckPoints_any w.heap.size A n k l W (H.out.below hb (Nat.le_refl _)) hb.size hl)
  have he : lsEr c l per = orL [ckC c, ckG l, ckTn per] := rfl
  have CK := Lib.hid (fun W => Check_any c W)
  have CT := Lib.hid (fun W => checkTurn_any per W)
  obtain ⟨e1, h1⟩ : ∃ x, ckC c = x := ⟨_, rfl⟩
  obtain ⟨e2, h2⟩ : ∃ x, ckG l = x := ⟨_, rfl⟩
  obtain ⟨e3, h3⟩ : ∃ x, ckTn per = x := ⟨_, rfl⟩
  rw [h1] at CK
  rw [h2] at CP
  rw [h3] at CT
  rw [h1, h2, h3] at he
  obtain ⟨er, h4⟩ : ∃ x, orL [e1, e2, e3] = x := ⟨_, rfl⟩
  rw [h4] at he
  have HER := Lib.hid he
  have HOR := Lib.hid (fun B A n c W h1 h2 h3 h4 => cmpOr_any B A n c [e1, e2, e3] W h1 h2 h3 h4)
  rw [h4] at HOR
  clear h1 h2 h3 h4 he
  go_enter Try.func73, Try.ntmps73
  go_wp2
  obtain ⟨W, hW⟩ : ∃ W, (((w).alloc (.cells #[.int .i64 c.half, .int .i64 c.gain, .int .i64 c.thin, .int .i64 c.wide, .int .i64 c.slope, .int .i64 c.jerk, .int .i64 c.stylus] 73)).alloc (.cells #[.slice A n k] 78)).alloc (.cells #[.int .i64 per] 2) = W := ⟨_, rfl⟩
  have HB : Hid (Below w.heap.size w W) := Lib.hid (by rw [← hW]; exact ((((Below.refl _ _).alloc (by first | exact Nat.le_refl _ | (simp; done) | (simp; omega)) _).alloc (by first | exact Nat.le_refl _ | (simp; done) | (simp; omega)) _).alloc (by first | exact Nat.le_refl _ | (simp; done) | (simp; omega)) _))
  have hk0 : Blk W (w.heap.size) 73 #[.int .i64 c.half, .int .i64 c.gain, .int .i64 c.thin, .int .i64 c.wide, .int .i64 c.slope, .int .i64 c.jerk, .int .i64 c.stylus] := by rw [← hW]; exact (((blk_al (by first | rfl | (simp; done))).alloc _).alloc _)
  have hk1 : Blk W (w.heap.size + 1) 78 #[.slice A n k] := by rw [← hW]; exact ((blk_al (by first | rfl | (simp; done))).alloc _)
  have hk2 : Blk W (w.heap.size + 1 + 1) 2 #[.int .i64 per] := by rw [← hW]; exact (blk_al (by first | rfl | (simp; done)))
  rw [hW]
  clear hW
  have HK0 := Lib.hid hk0
  have HK1 := Lib.hid hk1
  have HK2 := Lib.hid hk2
  have p0 : W.cell? ⟨w.heap.size, 0, none⟩ = some (.int .i64 c.half) := (HK0.out.cell 0).trans rfl
  have p1 : W.cell? ⟨w.heap.size, 1, none⟩ = some (.int .i64 c.gain) := (HK0.out.cell 1).trans rfl
  have p2 : W.cell? ⟨w.heap.size, 2, none⟩ = some (.int .i64 c.thin) := (HK0.out.cell 2).trans rfl
  have p3 : W.cell? ⟨w.heap.size, 3, none⟩ = some (.int .i64 c.wide) := (HK0.out.cell 3).trans rfl
  have p4 : W.cell? ⟨w.heap.size, 4, none⟩ = some (.int .i64 c.slope) := (HK0.out.cell 4).trans rfl
  have p5 : W.cell? ⟨w.heap.size, 5, none⟩ = some (.int .i64 c.jerk) := (HK0.out.cell 5).trans rfl
  have p6 : W.cell? ⟨w.heap.size, 6, none⟩ = some (.int .i64 c.stylus) := (HK0.out.cell 6).trans rfl
  have p7 : W.cell? ⟨w.heap.size + 1, 0, none⟩ = some (.slice A n k) := (HK1.out.cell 0).trans rfl
  have p8 : W.cell? ⟨w.heap.size + 1 + 1, 0, none⟩ = some (.int .i64 per) := (HK2.out.cell 0).trans rfl
  clear hk0 hk1 hk2
  go_region_held3 (fun w' => w'.cell? ⟨w.heap.size, 0, none⟩ = some (.int .i64 c.half) ∧ w'.cell? ⟨w.heap.size, 1, none⟩ = some (.int .i64 c.gain) ∧ w'.cell? ⟨w.heap.size, 2, none⟩ = some (.int .i64 c.thin) ∧ w'.cell? ⟨w.heap.size, 3, none⟩ = some (.int .i64 c.wide) ∧ w'.cell? ⟨w.heap.size, 4, none⟩ = some (.int .i64 c.slope) ∧ w'.cell? ⟨w.heap.size, 5, none⟩ = some (.int .i64 c.jerk) ∧ w'.cell? ⟨w.heap.size, 6, none⟩ = some (.int .i64 c.stylus) ∧ w'.cell? ⟨w.heap.size + 1, 0, none⟩ = some (.slice A n k) ∧ w'.cell? ⟨w.heap.size + 1 + 1, 0, none⟩ = some (.int .i64 per))
    ((refine ⟨?_, ?_, ?_, ?_, ?_, ?_, ?_, ?_, ?_⟩ <;> (repeat (with_reducible (first | refine cell_al _ ?_ | refine cell_dr ?_))) <;> (with_reducible assumption)))
    (first | (go_at_call 65; refine (CK.out _).mono ?_; rintro e w1 ⟨rfl, hb1⟩; have HK0 := Lib.hid (HK0.out.drew.below hb1 HK0.out.lt); have HK1 := Lib.hid (HK1.out.drew.below hb1 HK1.out.lt); have HK2 := Lib.hid (HK2.out.drew.below hb1 HK2.out.lt); have p0 : w1.cell? ⟨w.heap.size, 0, none⟩ = some (.int .i64 c.half) := (HK0.out.cell 0).trans rfl; have p1 : w1.cell? ⟨w.heap.size, 1, none⟩ = some (.int .i64 c.gain) := (HK0.out.cell 1).trans rfl; have p2 : w1.cell? ⟨w.heap.size, 2, none⟩ = some (.int .i64 c.thin) := (HK0.out.cell 2).trans rfl; have p3 : w1.cell? ⟨w.heap.size, 3, none⟩ = some (.int .i64 c.wide) := (HK0.out.cell 3).trans rfl; have p4 : w1.cell? ⟨w.heap.size, 4, none⟩ = some (.int .i64 c.slope) := (HK0.out.cell 4).trans rfl; have p5 : w1.cell? ⟨w.heap.size, 5, none⟩ = some (.int .i64 c.jerk) := (HK0.out.cell 5).trans rfl; have p6 : w1.cell? ⟨w.heap.size, 6, none⟩ = some (.int .i64 c.stylus) := (HK0.out.cell 6).trans rfl; have p7 : w1.cell? ⟨w.heap.size + 1, 0, none⟩ = some (.slice A n k) := (HK1.out.cell 0).trans rfl; have p8 : w1.cell? ⟨w.heap.size + 1 + 1, 0, none⟩ = some (.int .i64 per) := (HK2.out.cell 0).trans rfl; have HB := Lib.hid (HB.out.drew.trans (hb1.mono HB.out.size)); clear hb1) | (go_at_call 67; refine (CP.out _ HB.out).mono ?_; rintro e w1 ⟨rfl, hb1⟩; have HK0 := Lib.hid (HK0.out.below hb1 HK0.out.lt); have HK1 := Lib.hid (HK1.out.below hb1 HK1.out.lt); have HK2 := Lib.hid (HK2.out.below hb1 HK2.out.lt); have p0 : w1.cell? ⟨w.heap.size, 0, none⟩ = some (.int .i64 c.half) := (HK0.out.cell 0).trans rfl; have p1 : w1.cell? ⟨w.heap.size, 1, none⟩ = some (.int .i64 c.gain) := (HK0.out.cell 1).trans rfl; have p2 : w1.cell? ⟨w.heap.size, 2, none⟩ = some (.int .i64 c.thin) := (HK0.out.cell 2).trans rfl; have p3 : w1.cell? ⟨w.heap.size, 3, none⟩ = some (.int .i64 c.wide) := (HK0.out.cell 3).trans rfl; have p4 : w1.cell? ⟨w.heap.size, 4, none⟩ = some (.int .i64 c.slope) := (HK0.out.cell 4).trans rfl; have p5 : w1.cell? ⟨w.heap.size, 5, none⟩ = some (.int .i64 c.jerk) := (HK0.out.cell 5).trans rfl; have p6 : w1.cell? ⟨w.heap.size, 6, none⟩ = some (.int .i64 c.stylus) := (HK0.out.cell 6).trans rfl; have p7 : w1.cell? ⟨w.heap.size + 1, 0, none⟩ = some (.slice A n k) := (HK1.out.cell 0).trans rfl; have p8 : w1.cell? ⟨w.heap.size + 1 + 1, 0, none⟩ = some (.int .i64 per) := (HK2.out.cell 0).trans rfl; have HB := Lib.hid (HB.out.trans (hb1.mono HB.out.size)); clear hb1) | (go_at_call 140; refine (CT.out _).mono ?_; rintro e w1 ⟨rfl, rfl⟩) | (go_at_call 101; refine (HOR.out _ _ _ _ _ rfl (reads_cells (blk_al rfl) (Nat.lt_succ_self _) (by rfl) (by rfl)) (by simp) (by simp)).mono ?_; rintro e w1 ⟨rfl, rfl⟩))
  obtain ⟨W2, hW2⟩ : ∃ W2, w1.alloc (.cells #[.int .i64 e1, .int .i64 e2, .int .i64 e3] 27) = W2 := ⟨_, rfl⟩
  have HK0 : Hid (Blk W2 (w.heap.size) 73 #[.int .i64 c.half, .int .i64 c.gain, .int .i64 c.thin, .int .i64 c.wide, .int .i64 c.slope, .int .i64 c.jerk, .int .i64 c.stylus]) := Lib.hid (by rw [← hW2]; exact HK0.out.alloc _)
  have HK1 : Hid (Blk W2 (w.heap.size + 1) 78 #[.slice A n k]) := Lib.hid (by rw [← hW2]; exact HK1.out.alloc _)
  have HK2 : Hid (Blk W2 (w.heap.size + 1 + 1) 2 #[.int .i64 per]) := Lib.hid (by rw [← hW2]; exact HK2.out.alloc _)
  have HB : Hid (Below w.heap.size w W2) := Lib.hid (by rw [← hW2]; exact HB.out.alloc HB.out.size _)
  rw [hW2]
  clear hW2 p0 p1 p2 p3 p4 p5 p6 p7 p8
  by_cases hz : er = 0
  · subst hz
    have HOK := Lib.hid (ls_ok HER.out)
    have LL := Lib.hid (least_least (fun r => fls c l r per) (fls_mono HOK.out.1 HOK.out.2.2.1 HOK.out.2.2.2) w.heap.size (w.heap.size + 1 + 1) (w.heap.size + 1) W2
      (fun r W h1 h2 hb => Least1_any w.heap.size A n k c l r per w.heap.size (w.heap.size + 1) (w.heap.size + 1 + 1) W (HK0.out.below hb HK0.out.lt) (HK1.out.below hb HK1.out.lt) (HK2.out.below hb HK2.out.lt) (H.out.below (HB.out.trans (hb.mono HB.out.size)) (Nat.le_refl _)) (Nat.le_trans HB.out.size hb.size) hl HOK.out.2.1 HOK.out.1 ⟨h1, h2, HOK.out.2.2.1, HOK.out.2.2.2⟩))
    go_wp2_with fail
    refine LL.out.mono ?_
    rintro e w3 ⟨v, er, rfl, hq, hb3⟩
    have HQ := Lib.hid hq
    have HB3 := Lib.hid (HB.out.trans (hb3.mono HB.out.size))
    clear hq hb3
    go_wp2
    go_ret2
    exact ⟨_, _, rfl, by unfold lsQ; rw [if_pos HER.out]; exact HQ.out, HB3.out⟩
  · have hz1 : (er == 0) = false := by simpa using hz
    have hz2 : (er != 0) = true := by simpa using hz
    have HZ := Lib.hid hz
    clear hz
    go_wp2
    go_ret2
    exact ⟨_, _, rfl, by unfold lsQ; rw [if_neg (by rw [HER.out]; exact HZ.out)]; exact ⟨rfl, HER.out.symm⟩, HB.out⟩

set_option maxRecDepth 100000 in
set_option maxHeartbeats 8000000 in
theorem Needs_any (B : Nat) (A : Option Addr) (n k : Nat) (c : Ctr) (l : List Smp) (per : Int) (i : Int) (w : World) (h0 : RS w B A n l) (hB : B ≤ w.heap.size) (hl : n ≤ 9223372036854775807) :
    Calls Try.prog 78 #[.agg #[.int .i64 c.half, .int .i64 c.gain, .int .i64 c.thin, .int .i64 c.wide, .int .i64 c.slope, .int .i64 c.jerk, .int .i64 c.stylus], .slice A n k, .int .i64 per, .int .i64 i] w (LePost (ndQ c l per i) w) := by
  have HN := Lib.hid h0.1
  have H := Lib.hid (h0.more hB)
  clear h0 hB
  have CP := Lib.hid (fun W (hb : Below w.heap.size w W) => CheckPoints_any w.heap.size A n k l W (H.out.below hb (Nat.le_refl _)) hb.size hl)
  have he : lsEr c l per = orL [ckC c, ckG l, ckTn per] := rfl
  have CK := Lib.hid (fun W => Check_any c W)
  have CT := Lib.hid (fun W => checkTurn_any per W)
  obtain ⟨e1, h1⟩ : ∃ x, ckC c = x := ⟨_, rfl⟩
  obtain ⟨e2, h2⟩ : ∃ x, ckG l = x := ⟨_, rfl⟩
  obtain ⟨e3, h3⟩ : ∃ x, ckTn per = x := ⟨_, rfl⟩
  rw [h1] at CK
  rw [h2] at CP
  rw [h3] at CT
  rw [h1, h2, h3] at he
  obtain ⟨er, h4⟩ : ∃ x, orL [e1, e2, e3] = x := ⟨_, rfl⟩
  rw [h4] at he
  have HER := Lib.hid he
  have HOR := Lib.hid (fun B A n c W h1 h2 h3 h4 => cmpOr_any B A n c [e1, e2, e3] W h1 h2 h3 h4)
  rw [h4] at HOR
  clear h1 h2 h3 h4 he
  go_enter Try.func78, Try.ntmps78
  go_wp2
  obtain ⟨W, hW⟩ : ∃ W, ((((w).alloc (.cells #[.int .i64 c.half, .int .i64 c.gain, .int .i64 c.thin, .int .i64 c.wide, .int .i64 c.slope, .int .i64 c.jerk, .int .i64 c.stylus] 73)).alloc (.cells #[.slice A n k] 78)).alloc (.cells #[.int .i64 per] 2)).alloc (.cells #[.int .i64 i] 3) = W := ⟨_, rfl⟩
  have HB : Hid (Below w.heap.size w W) := Lib.hid (by rw [← hW]; exact (((((Below.refl _ _).alloc (by first | exact Nat.le_refl _ | (simp; done) | (simp; omega)) _).alloc (by first | exact Nat.le_refl _ | (simp; done) | (simp; omega)) _).alloc (by first | exact Nat.le_refl _ | (simp; done) | (simp; omega)) _).alloc (by first | exact Nat.le_refl _ | (simp; done) | (simp; omega)) _))
  have hk0 : Blk W (w.heap.size) 73 #[.int .i64 c.half, .int .i64 c.gain, .int .i64 c.thin, .int .i64 c.wide, .int .i64 c.slope, .int .i64 c.jerk, .int .i64 c.stylus] := by rw [← hW]; exact ((((blk_al (by first | rfl | (simp; done))).alloc _).alloc _).alloc _)
  have hk1 : Blk W (w.heap.size + 1) 78 #[.slice A n k] := by rw [← hW]; exact (((blk_al (by first | rfl | (simp; done))).alloc _).alloc _)
  have hk2 : Blk W (w.heap.size + 1 + 1) 2 #[.int .i64 per] := by rw [← hW]; exact ((blk_al (by first | rfl | (simp; done))).alloc _)
  have hk3 : Blk W (w.heap.size + 1 + 1 + 1) 3 #[.int .i64 i] := by rw [← hW]; exact (blk_al (by first | rfl | (simp; done)))
  rw [hW]
  clear hW
  have HK0 := Lib.hid hk0
  have HK1 := Lib.hid hk1
  have HK2 := Lib.hid hk2
  have HK3 := Lib.hid hk3
  have p0 : W.cell? ⟨w.heap.size, 0, none⟩ = some (.int .i64 c.half) := (HK0.out.cell 0).trans rfl
  have p1 : W.cell? ⟨w.heap.size, 1, none⟩ = some (.int .i64 c.gain) := (HK0.out.cell 1).trans rfl
  have p2 : W.cell? ⟨w.heap.size, 2, none⟩ = some (.int .i64 c.thin) := (HK0.out.cell 2).trans rfl
  have p3 : W.cell? ⟨w.heap.size, 3, none⟩ = some (.int .i64 c.wide) := (HK0.out.cell 3).trans rfl
  have p4 : W.cell? ⟨w.heap.size, 4, none⟩ = some (.int .i64 c.slope) := (HK0.out.cell 4).trans rfl
  have p5 : W.cell? ⟨w.heap.size, 5, none⟩ = some (.int .i64 c.jerk) := (HK0.out.cell 5).trans rfl
  have p6 : W.cell? ⟨w.heap.size, 6, none⟩ = some (.int .i64 c.stylus) := (HK0.out.cell 6).trans rfl
  have p7 : W.cell? ⟨w.heap.size + 1, 0, none⟩ = some (.slice A n k) := (HK1.out.cell 0).trans rfl
  have p8 : W.cell? ⟨w.heap.size + 1 + 1, 0, none⟩ = some (.int .i64 per) := (HK2.out.cell 0).trans rfl
  have p9 : W.cell? ⟨w.heap.size + 1 + 1 + 1, 0, none⟩ = some (.int .i64 i) := (HK3.out.cell 0).trans rfl
  clear hk0 hk1 hk2 hk3
  go_region_held3 (fun w' => w'.cell? ⟨w.heap.size, 0, none⟩ = some (.int .i64 c.half) ∧ w'.cell? ⟨w.heap.size, 1, none⟩ = some (.int .i64 c.gain) ∧ w'.cell? ⟨w.heap.size, 2, none⟩ = some (.int .i64 c.thin) ∧ w'.cell? ⟨w.heap.size, 3, none⟩ = some (.int .i64 c.wide) ∧ w'.cell? ⟨w.heap.size, 4, none⟩ = some (.int .i64 c.slope) ∧ w'.cell? ⟨w.heap.size, 5, none⟩ = some (.int .i64 c.jerk) ∧ w'.cell? ⟨w.heap.size, 6, none⟩ = some (.int .i64 c.stylus) ∧ w'.cell? ⟨w.heap.size + 1, 0, none⟩ = some (.slice A n k) ∧ w'.cell? ⟨w.heap.size + 1 + 1, 0, none⟩ = some (.int .i64 per) ∧ w'.cell? ⟨w.heap.size + 1 + 1 + 1, 0, none⟩ = some (.int .i64 i))
    ((refine ⟨?_, ?_, ?_, ?_, ?_, ?_, ?_, ?_, ?_, ?_⟩ <;> (repeat (with_reducible (first | refine cell_al _ ?_ | refine cell_dr ?_))) <;> (with_reducible assumption)))
    (first | (go_at_call 65; refine (CK.out _).mono ?_; rintro e w1 ⟨rfl, hb1⟩; have HK0 := Lib.hid (HK0.out.drew.below hb1 HK0.out.lt); have HK1 := Lib.hid (HK1.out.drew.below hb1 HK1.out.lt); have HK2 := Lib.hid (HK2.out.drew.below hb1 HK2.out.lt); have HK3 := Lib.hid (HK3.out.drew.below hb1 HK3.out.lt); have p0 : w1.cell? ⟨w.heap.size, 0, none⟩ = some (.int .i64 c.half) := (HK0.out.cell 0).trans rfl; have p1 : w1.cell? ⟨w.heap.size, 1, none⟩ = some (.int .i64 c.gain) := (HK0.out.cell 1).trans rfl; have p2 : w1.cell? ⟨w.heap.size, 2, none⟩ = some (.int .i64 c.thin) := (HK0.out.cell 2).trans rfl; have p3 : w1.cell? ⟨w.heap.size, 3, none⟩ = some (.int .i64 c.wide) := (HK0.out.cell 3).trans rfl; have p4 : w1.cell? ⟨w.heap.size, 4, none⟩ = some (.int .i64 c.slope) := (HK0.out.cell 4).trans rfl; have p5 : w1.cell? ⟨w.heap.size, 5, none⟩ = some (.int .i64 c.jerk) := (HK0.out.cell 5).trans rfl; have p6 : w1.cell? ⟨w.heap.size, 6, none⟩ = some (.int .i64 c.stylus) := (HK0.out.cell 6).trans rfl; have p7 : w1.cell? ⟨w.heap.size + 1, 0, none⟩ = some (.slice A n k) := (HK1.out.cell 0).trans rfl; have p8 : w1.cell? ⟨w.heap.size + 1 + 1, 0, none⟩ = some (.int .i64 per) := (HK2.out.cell 0).trans rfl; have p9 : w1.cell? ⟨w.heap.size + 1 + 1 + 1, 0, none⟩ = some (.int .i64 i) := (HK3.out.cell 0).trans rfl; have HB := Lib.hid (HB.out.drew.trans (hb1.mono HB.out.size)); clear hb1) | (go_at_call 67; refine (CP.out _ HB.out).mono ?_; rintro e w1 ⟨rfl, hb1⟩; have HK0 := Lib.hid (HK0.out.below hb1 HK0.out.lt); have HK1 := Lib.hid (HK1.out.below hb1 HK1.out.lt); have HK2 := Lib.hid (HK2.out.below hb1 HK2.out.lt); have HK3 := Lib.hid (HK3.out.below hb1 HK3.out.lt); have p0 : w1.cell? ⟨w.heap.size, 0, none⟩ = some (.int .i64 c.half) := (HK0.out.cell 0).trans rfl; have p1 : w1.cell? ⟨w.heap.size, 1, none⟩ = some (.int .i64 c.gain) := (HK0.out.cell 1).trans rfl; have p2 : w1.cell? ⟨w.heap.size, 2, none⟩ = some (.int .i64 c.thin) := (HK0.out.cell 2).trans rfl; have p3 : w1.cell? ⟨w.heap.size, 3, none⟩ = some (.int .i64 c.wide) := (HK0.out.cell 3).trans rfl; have p4 : w1.cell? ⟨w.heap.size, 4, none⟩ = some (.int .i64 c.slope) := (HK0.out.cell 4).trans rfl; have p5 : w1.cell? ⟨w.heap.size, 5, none⟩ = some (.int .i64 c.jerk) := (HK0.out.cell 5).trans rfl; have p6 : w1.cell? ⟨w.heap.size, 6, none⟩ = some (.int .i64 c.stylus) := (HK0.out.cell 6).trans rfl; have p7 : w1.cell? ⟨w.heap.size + 1, 0, none⟩ = some (.slice A n k) := (HK1.out.cell 0).trans rfl; have p8 : w1.cell? ⟨w.heap.size + 1 + 1, 0, none⟩ = some (.int .i64 per) := (HK2.out.cell 0).trans rfl; have p9 : w1.cell? ⟨w.heap.size + 1 + 1 + 1, 0, none⟩ = some (.int .i64 i) := (HK3.out.cell 0).trans rfl; have HB := Lib.hid (HB.out.trans (hb1.mono HB.out.size)); clear hb1) | (go_at_call 140; refine (CT.out _).mono ?_; rintro e w1 ⟨rfl, rfl⟩) | (go_at_call 101; refine (HOR.out _ _ _ _ _ rfl (reads_cells (blk_al rfl) (Nat.lt_succ_self _) (by rfl) (by rfl)) (by simp) (by simp)).mono ?_; rintro e w1 ⟨rfl, rfl⟩))
  obtain ⟨W2, hW2⟩ : ∃ W2, w1.alloc (.cells #[.int .i64 e1, .int .i64 e2, .int .i64 e3] 27) = W2 := ⟨_, rfl⟩
  have HK0 : Hid (Blk W2 (w.heap.size) 73 #[.int .i64 c.half, .int .i64 c.gain, .int .i64 c.thin, .int .i64 c.wide, .int .i64 c.slope, .int .i64 c.jerk, .int .i64 c.stylus]) := Lib.hid (by rw [← hW2]; exact HK0.out.alloc _)
  have HK1 : Hid (Blk W2 (w.heap.size + 1) 78 #[.slice A n k]) := Lib.hid (by rw [← hW2]; exact HK1.out.alloc _)
  have HK2 : Hid (Blk W2 (w.heap.size + 1 + 1) 2 #[.int .i64 per]) := Lib.hid (by rw [← hW2]; exact HK2.out.alloc _)
  have HK3 : Hid (Blk W2 (w.heap.size + 1 + 1 + 1) 3 #[.int .i64 i]) := Lib.hid (by rw [← hW2]; exact HK3.out.alloc _)
  have HB : Hid (Below w.heap.size w W2) := Lib.hid (by rw [← hW2]; exact HB.out.alloc HB.out.size _)
  rw [hW2]
  clear hW2 p0 p1 p2 p3 p4 p5 p6 p7 p8 p9
  by_cases hz : er = 0
  · subst hz
    have HOK := Lib.hid (ls_ok HER.out)
    have p7 := (HK1.out.cell 0).trans rfl
    have p9 := (HK3.out.cell 0).trans rfl
    by_cases hi : i < 0
    · go_wp2
      go_ret2
      exact ⟨_, _, rfl, by unfold ndQ; rw [if_pos HER.out, if_pos (.inl hi)]; exact ⟨rfl, rfl⟩, HB.out⟩
    · by_cases hi2 : (n : Int) ≤ i
      · have HI2 := Lib.hid hi2
        go_wp2
        go_ret2
        exact ⟨_, _, rfl, by unfold ndQ; rw [if_pos HER.out, if_pos (.inr (by have := HN.out; have := HI2.out; omega))]; exact ⟨rfl, rfl⟩, HB.out⟩
      · obtain ⟨j, rfl⟩ : ∃ j : Nat, i = (j : Int) := ⟨i.toNat, by omega⟩
        have hj : j < n := by omega
        have HJ := Lib.hid (show j < l.length by have := HN.out; omega)
        have LL := Lib.hid (least_needs (fun r => brk c l r per j == 0) (brk_mono HOK.out.1 HOK.out.2.2.1 HOK.out.2.2.2) w.heap.size (w.heap.size + 1 + 1) (w.heap.size + 1) (w.heap.size + 1 + 1 + 1) W2
          (fun r W h1 h2 hb => Needs1_any w.heap.size A n k c l r per j w.heap.size (w.heap.size + 1) (w.heap.size + 1 + 1) (w.heap.size + 1 + 1 + 1) W (HK0.out.below hb HK0.out.lt) (HK1.out.below hb HK1.out.lt) (HK2.out.below hb HK2.out.lt) (HK3.out.below hb HK3.out.lt) (H.out.below (HB.out.trans (hb.mono HB.out.size)) (Nat.le_refl _)) (Nat.le_trans HB.out.size hb.size) hl HJ.out HOK.out.2.1 HOK.out.1 ⟨h1, h2, HOK.out.2.2.1, HOK.out.2.2.2⟩))
        have hi3 : decide ((j : Int) < 0) = false := decide_eq_false hi
        have hi4 : decide ((n : Int) ≤ (j : Int)) = false := decide_eq_false hi2
        have hi5 : decide (n ≤ j) = false := decide_eq_false (by omega)
        go_wp2_with fail
        refine LL.out.mono ?_
        rintro e w3 ⟨v, er, rfl, hq, hb3⟩
        have HQ := Lib.hid hq
        have HB3 := Lib.hid (HB.out.trans (hb3.mono HB.out.size))
        clear hq hb3
        go_wp2
        go_ret2
        exact ⟨_, _, rfl, by unfold ndQ; rw [if_pos HER.out, if_neg (by have := HJ.out; omega)]; exact HQ.out, HB3.out⟩
  · have hz1 : (er == 0) = false := by simpa using hz
    have hz2 : (er != 0) = true := by simpa using hz
    have HZ := Lib.hid hz
    clear hz
    go_wp2
    go_ret2
    exact ⟨_, _, rfl, by unfold ndQ; rw [if_neg (by rw [HER.out]; exact HZ.out)]; exact ⟨rfl, HER.out.symm⟩, HB.out⟩

end Go.Proofs.Ytjaomjbhkgijbaa

