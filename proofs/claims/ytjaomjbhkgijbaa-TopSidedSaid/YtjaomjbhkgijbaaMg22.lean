/-
  Curves in memory as a list; checkCurves.
-/
import Derived.Test.YtjaomjbhkgijbaaMg21
import Derived.Deep.QuietTactic
import Derived.BigQuiet
import Derived.Deep.RegionWith

namespace Go.Proofs.Ytjaomjbhkgijbaa
open Go.RowKit

/-- A curve as it lies in memory: its slices, its numbers. -/
structure CV where
  Af : Option Addr
  nf : Nat
  kf : Nat
  Ab : Option Addr
  nb : Nat
  kb : Nat
  c : Cur
def cvCells (l : List CV) : List Value := l.flatMap fun t => [.slice t.Af t.nf t.kf, .slice t.Ab t.nb t.kb, .int .i64 t.c.share]
theorem cvCells_length (l : List CV) : (cvCells l).length = l.length * 3 := by
  induction l with
  | nil => rfl
  | cons x xs ih => simp [cvCells] at ih ⊢; omega
theorem cvCells_at (l : List CV) : ∀ (k : Nat) (h : k < l.length), (cvCells l)[k * 3]? = some (.slice l[k].Af l[k].nf l[k].kf) ∧ (cvCells l)[k * 3 + 1]? = some (.slice l[k].Ab l[k].nb l[k].kb) ∧ (cvCells l)[k * 3 + 2]? = some (.int .i64 l[k].c.share) := by
  induction l with
  | nil => intro k h; simp at h
  | cons x xs ih =>
    intro k h
    cases k with
    | zero => exact ⟨rfl, rfl, rfl⟩
    | succ k =>
      have := ih k (by simpa using h)
      rw [show (k + 1) * 3 = k * 3 + 3 from by omega]
      simpa [cvCells, List.getElem?_cons] using this
/-- A curve's lists, in memory below B. -/
structure CI (w : World) (B : Nat) (t : CV) : Prop where
  f : LI w B t.Af t.nf t.c.feed
  b : LI w B t.Ab t.nb t.c.back
theorem CI.below {w w' : World} {B B' : Nat} {t : CV} (h : CI w B t) (hb : Below B' w w') (hB : B ≤ B') : CI w' B t := ⟨h.f.below hb hB, h.b.below hb hB⟩
theorem CI.more {w : World} {B B' : Nat} {t : CV} (h : CI w B t) (hB : B ≤ B') : CI w B' t := ⟨h.f.more hB, h.b.more hB⟩
/-- '.slice A n c' reads as the curves l. -/
def RC (w : World) (B : Nat) (A : Option Addr) (n : Nat) (l : List CV) : Prop := n = l.length ∧ Reads w B 3 A n (cvCells l) ∧ ∀ t ∈ l, CI w B t
section
variable {w w' : World} {B B' n : Nat} {A : Option Addr} {l : List CV}
theorem RC.below (h : RC w B A n l) (hb : Below B' w w') (hB : B ≤ B') : RC w' B A n l := ⟨h.1, h.2.1.below hb hB, fun t ht => (h.2.2 t ht).below hb hB⟩
theorem RC.more (h : RC w B A n l) (hB : B ≤ B') : RC w B' A n l := ⟨h.1, h.2.1.more hB, fun t ht => (h.2.2 t ht).more hB⟩
theorem RC.at_ (h : RC w B A n l) {k : Nat} (hk : k < l.length) : ∃ ad, A = some ad ∧ ad.block < B ∧ w.cell? (ad.add (k * 3)) = some (.slice l[k].Af l[k].nf l[k].kf) ∧ w.cell? ⟨(ad.add (k * 3)).block, (ad.add (k * 3)).off + 1, none⟩ = some (.slice l[k].Ab l[k].nb l[k].kb) ∧ w.cell? ⟨(ad.add (k * 3)).block, (ad.add (k * 3)).off + 2, none⟩ = some (.int .i64 l[k].c.share) ∧ CI w B l[k] := by
  obtain ⟨rfl, hr, hs⟩ := h
  obtain ⟨ad, e, hb, hc⟩ := hr.2 (by omega)
  obtain ⟨h1, h2, h3⟩ := cvCells_at l k hk
  exact ⟨ad, e, hb, hc _ _ h1, by have := hc _ _ h2; rw [← add_of_add] at this; exact this, by have := hc _ _ h3; rw [← add_of_add] at this; exact this, hs _ (List.getElem_mem hk)⟩
end
/-- The first error of curves; 0 if there is none. -/
def errs : List Cur → Int
  | [] => 0
  | c :: cs => if ckV c = 0 then errs cs else ckV c
def ckCs (l : List Cur) : Int := if 8 < l.length then 6 else errs l
theorem errs_ok : ∀ {l : List Cur}, errs l = 0 → ∀ c ∈ l, ckV c = 0
  | [], _, c, hc => absurd hc (by simp)
  | d :: cs, h, c, hc => by
    unfold errs at h
    split at h
    · rename_i h0
      rcases List.mem_cons.1 hc with rfl | hc
      · exact h0
      · exact errs_ok h c hc
    · rename_i h0; exact absurd h h0
/-- Each slice is no longer than an int counts. -/
def CSm (l : List CV) : Prop := ∀ t ∈ l, t.nf ≤ 9223372036854775807 ∧ t.nb ≤ 9223372036854775807

set_option maxRecDepth 100000 in
set_option maxHeartbeats 1000000 in
theorem checkCurves_any (B : Nat) (A : Option Addr) (n k : Nat) (l : List CV) (w : World) (h0 : RC w B A n l) (hB : B ≤ w.heap.size) (hl : n ≤ 9223372036854775807) (hs : CSm l) :
    Calls Try.prog 116 #[.slice A n k] w fun e w' => e = .returned (.int .i64 (ckCs (l.map CV.c))) ∧ Below w.heap.size w w' := by
  have HN := Lib.hid h0.1
  have H := Lib.hid (h0.more hB)
  have HS := Lib.hid hs
  clear h0 hB hs
  by_cases hl2 : 8 < n
  · go_enter Try.func116, Try.ntmps116
    go_wp2
    go_ret
    exact ⟨ret_i (by unfold ckCs; rw [if_pos (by have := HN.out; simp; omega)]), Below.refl _ _⟩
  · have hck : ckCs (l.map CV.c) = errs (l.map CV.c) := by unfold ckCs; rw [if_neg (by have := HN.out; simp; omega)]
    obtain ⟨R, hR⟩ : ∃ R, errs (l.map CV.c) = R := ⟨_, rfl⟩
    rw [hck, hR]
    have HR := Lib.hid hR
    clear hck hR
    go_enter Try.func116, Try.ntmps116
    go_wp2
    go_loopw [11] (fun i wr => ∃ k : Nat, k ≤ n ∧ i = .int .i64 k ∧ Hid (Below w.heap.size w wr) ∧ Hid (errs ((l.drop k).map CV.c) = R)) (fun i wr => n - (intOf i).toNat)
    case atStart => exact ⟨0, Nat.zero_le _, rfl, Lib.hid (Below.refl _ _), HR⟩
    case round =>
      clear HR
      obtain ⟨j, hj, rfl, HBW, HR⟩ := hrel
      by_cases hlt : j < n
      · have hjl : j < l.length := by have := HN.out; omega
        obtain ⟨ad, hA, hbl, p0, p1, p2, hci⟩ := (H.out.below HBW.out (Nat.le_refl _)).at_ (k := j) hjl
        obtain rfl := hA
        have hsm := HS.out _ (List.getElem_mem hjl)
        have hrr := HR.out
        rw [List.drop_eq_getElem_cons hjl] at hrr
        have HD := Lib.hid hrr
        clear hrr
        obtain ⟨t, ht⟩ : ∃ t, l[j] = t := ⟨_, rfl⟩
        rw [ht] at p0 p1 p2 hci hsm HD
        clear ht
        obtain ⟨s1, s2⟩ := hsm
        have HCI := Lib.hid hci
        clear hci
        go_wp2_with fail
        obtain ⟨W, hW⟩ : ∃ W, wr.alloc (.cells #[.slice t.Af t.nf t.kf, .slice t.Ab t.nb t.kb, .int .i64 t.c.share] 43) = W := ⟨_, rfl⟩
        have HBX : Hid (Below w.heap.size w W) := Lib.hid (by rw [← hW]; exact HBW.out.alloc HBW.out.size _)
        have hk : Blk W wr.heap.size 43 #[.slice t.Af t.nf t.kf, .slice t.Ab t.nb t.kb, .int .i64 t.c.share] := by rw [← hW]; exact Blk.new _ _ _
        have HCX : Hid (CI W w.heap.size t) := Lib.hid (by rw [← hW]; exact HCI.out.below ((Below.refl _ _).alloc (Nat.le_refl _) _) HBW.out.size)
        rw [hW]
        clear hW p0 p1 p2
        obtain ⟨c0, c1, c2⟩ := hk.three_
        have hz : w.heap.size ≤ W.heap.size := HBX.out.size
        clear hk
        obtain ⟨r, hr⟩ : ∃ r, ckV t.c = r := ⟨_, rfl⟩
        have HER := Lib.hid hr
        clear hr
        by_cases hne : ¬ r = 0
        · go_wp2_with ((with_reducible refine (CheckCurve_any _ t.Af t.Ab t.nf t.kf t.nb t.kb t.c W HCX.out.f HCX.out.b hz s1 s2).mono ?_); rintro e w2 ⟨rfl, hb2⟩; rw [HER.out])
          go_ret
          exact ⟨ret_i (by have h := HD.out; rw [List.map_cons] at h; unfold errs at h; rw [if_neg (by rw [HER.out]; exact hne), HER.out] at h; exact h), HBX.out.trans (hb2.mono hz)⟩
        · obtain rfl : r = 0 := by omega
          clear hne
          go_wp2_with ((with_reducible refine (CheckCurve_any _ t.Af t.Ab t.nf t.kf t.nb t.kb t.c W HCX.out.f HCX.out.b hz s1 s2).mono ?_); rintro e w2 ⟨rfl, hb2⟩; rw [HER.out])
          go_roundw
          case rel => exact ⟨j + 1, by omega, by go_num, Lib.hid (HBX.out.trans (hb2.mono hz)), Lib.hid (by have h := HD.out; rw [List.map_cons] at h; unfold errs at h; rw [if_pos HER.out] at h; exact h)⟩
          case measure => simp [intOf]; omega
      · go_wp2
        go_ret
        have h := HR.out
        rw [List.drop_of_length_le (by have := HN.out; omega)] at h
        exact ⟨ret_i h, HBW.out⟩
end Go.Proofs.Ytjaomjbhkgijbaa

/-
  The two directions; a curve that runs, as a step.
-/
namespace Go.Proofs.Ytjaomjbhkgijbaa
open Go.RowKit

set_option maxRecDepth 100000 in
set_option maxHeartbeats 1000000 in
theorem forth_any (x c : Int) (w : World) (h : -4611686018427387904 ≤ x + c ∧ x + c ≤ 4611686018427387904) :
    Calls Try.prog 219 #[.agg #[], .int .i64 x, .int .i64 c] w fun e w' => e = .returned (.tuple #[.int .i64 (x + c), .agg #[.int .i64 x, .int .i64 (x + c)]]) ∧ Below w.heap.size w w' := by
  have e1 : IntKind.i64.wrap (x + c) = x + c := IntWalk.i64_in _ (by omega)
  go_enter Try.func219, Try.ntmps219
  go_wp2
  refine bodyPost_ret (v := .tuple #[.int .i64 (x + c), .agg #[.int .i64 x, .int .i64 (x + c)]]) ?_ rfl ⟨rfl, ?_⟩
  · simp [results, Try.results219, go_sem]
  · exact ((Below.refl _ _).alloc (Nat.le_refl _) _).alloc (by simp) _

set_option maxRecDepth 100000 in
set_option maxHeartbeats 1000000 in
theorem back_any (x c : Int) (w : World) (h : -4611686018427387904 ≤ x - c ∧ x - c ≤ 4611686018427387904) :
    Calls Try.prog 220 #[.agg #[], .int .i64 x, .int .i64 c] w fun e w' => e = .returned (.tuple #[.int .i64 (x - c), .agg #[.int .i64 (x - c), .int .i64 x]]) ∧ Below w.heap.size w w' := by
  have e1 : IntKind.i64.wrap (x - c) = x - c := IntWalk.i64_in _ (by omega)
  go_enter Try.func220, Try.ntmps220
  go_wp2
  refine bodyPost_ret (v := .tuple #[.int .i64 (x - c), .agg #[.int .i64 (x - c), .int .i64 x]]) ?_ rfl ⟨rfl, ?_⟩
  · simp [results, Try.results220, go_sem]
  · exact ((Below.refl _ _).alloc (Nat.le_refl _) _).alloc (by simp) _

theorem grown_of {w w' : World} {g : Nat} (h : Below w.heap.size w w') : w.grownBy w' (some g) := ⟨h.os, h.tape, h.output, h.size, fun i hi _ => h.block i hi⟩
theorem grown_tr {w w' w'' : World} {g : Nat} (h : w.grownBy w' (some g)) (h' : w'.grownBy w'' (some g)) : w.grownBy w'' (some g) :=
  ⟨h'.os.trans h.os, h'.tape.trans h.tape, h'.output.trans h.output, Nat.le_trans h.size h'.size, fun i hi hne => (h'.block i (Nat.lt_of_lt_of_le hi h.size) hne).trans (h.block i hi hne)⟩
theorem cor_bd {c : Cur} {h : List (Int × Int)} (hc : CurOk c) (hh : Small h) : -72057594037927936 ≤ cor c h ∧ cor c h ≤ 72057594037927936 := by
  obtain ⟨c1, c2, c3, c4, c5, c6⟩ := hc
  have h1 := sum_small c3 (fun i => (hh.at_ i).1) (k := c.feed.length) c1
  have h2 := sum_small c4 (fun i => (hh.at_ i).2) (k := c.back.length) c2
  have h3 : -72057594037927936 ≤ corS c h ∧ corS c h ≤ 72057594037927936 := by unfold corS; omega
  have h4 := Int.mul_le_mul_of_nonneg_left c5 (show (0 : Int) ≤ 72057594037927936 by omega)
  unfold cor
  constructor
  · rw [Int.le_ediv_iff_mul_le (by omega)]; omega
  · exact Int.ediv_le_of_le_mul (by omega) (by omega)

set_option maxRecDepth 100000 in
set_option maxHeartbeats 2000000 in
theorem step_forth_any (B g gd nx : Nat) (c : Cur) (h : List (Int × Int)) (Af Ab : Option Addr) (nf kf nb kb : Nat) (v : Int) (w : World)
    (hs : St w g h nx (.slice Af nf kf) (.slice Ab nb kb) c.share) (hd : Blk w gd 143 #[]) (hn : nx < 8) (hf : LI w B Af nf c.feed) (hb : LI w B Ab nb c.back) (hB : B ≤ w.heap.size) (hc : CurOk c) (hh : Small h)
    (hv : -1099511627776 ≤ v ∧ v ≤ 1099511627776) :
    Calls Try.prog 166 #[.int .i64 v, .pointer (some ⟨gd, 0, none⟩), .pointer (some ⟨g, 0, none⟩)] w
      (RemPost w g (mom true c h v :: h) ((nx + 1) % 8) (.slice Af nf kf) (.slice Ab nb kb) c.share (.int .i64 (outM true (mom true c h v)))) := by
  have hcb := cor_bd hc hh
  have HC := Lib.hid hc
  have HH := Lib.hid hh
  have HS := Lib.hid hs
  have HF := Lib.hid (hf.more hB)
  have HB := Lib.hid (hb.more hB)
  have hg := hs.lt
  have hgd := hd.lt
  have HD := Lib.hid hd
  have HN := Lib.hid hn
  clear hs hd hf hb hc hh hn hB
  obtain ⟨cc, hcc⟩ : ∃ x, cor c h = x := ⟨_, rfl⟩
  rw [hcc] at hcb
  have HCC := Lib.hid hcc
  clear hcc
  have HMM : Hid ((v, (v + cc)) = mom true c h v) := Lib.hid (by rw [← HCC.out]; rfl)
  have HO : Hid (outM true (mom true c h v) = (v + cc)) := Lib.hid (by rw [← HCC.out]; rfl)
  go_enter Try.func166, Try.ntmps166
  have hm : ∀ w, (method 239 143 (.agg #[]) "deadwax/filter.turn").run Try.prog w = .ok (219, .agg #[]) w := fun _ => by kernel_rfl
  have hm2 : ∀ w, (method 347 143 (.agg #[]) "deadwax/filter.turn").run Try.prog w = .ok (219, .agg #[]) w := fun _ => by kernel_rfl
  go_wp2_with fail
  go_region_with (first | ((with_reducible refine (correction_any w.heap.size g nx c h Af Ab nf kf nb kb w.drew HS.out.drew HN.out (HF.out.below (Below.refl _ _).drew (Nat.le_refl _)) (HB.out.below (Below.refl _ _).drew (Nat.le_refl _)) (by simp) HC.out HH.out).mono ?_); rintro e w1 ⟨rfl, hb1⟩; rw [HCC.out]; have HB1 : Hid (Below w.heap.size w w1) := Lib.hid ((Below.refl _ _).drew.trans hb1)) | ((with_reducible refine (correction_any w.heap.size g nx c h Af Ab nf kf nb kb ((w.alloc (.cells #[.int .i64 0, .int .i64 0] 196)).drew) ((HS.out.alloc _).drew) HN.out (HF.out.below ((Below.refl _ _).alloc (Nat.le_refl _) _).drew (Nat.le_refl _)) (HB.out.below ((Below.refl _ _).alloc (Nat.le_refl _) _).drew (Nat.le_refl _)) (by simp) HC.out HH.out).mono ?_); rintro e w1 ⟨rfl, hb1⟩; rw [HCC.out]; have HB1 : Hid (Below w.heap.size w w1) := Lib.hid (((Below.refl _ _).alloc (Nat.le_refl _) _).drew.trans (hb1.mono (by simp))); have HP1 : Hid (Blk w1 w.heap.size 196 #[.int .i64 0, .int .i64 0]) := Lib.hid ((Blk.new w _ _).drew.below hb1 (by simp))) | ((with_reducible refine (forth_any _ _ (w1.alloc (.cells #[.int .i64 0, .int .i64 0] 196)) (by omega)).mono ?_); rintro e w2 ⟨rfl, hb2⟩; have HB2 : Hid (Below w.heap.size w w2) := Lib.hid ((HB1.out.alloc (by have := HB1.out.size; omega) _).trans (hb2.mono (by have := HB1.out.size; simp; omega))); have hp2 := (Blk.new w1 _ _).below hb2 (by simp); have HP2 := Lib.hid hp2; obtain ⟨r0, r1, t0, t1, tl⟩ := hp2.two; clear hp2) | ((with_reducible refine (forth_any _ _ w1 (by omega)).mono ?_); rintro e w2 ⟨rfl, hb2⟩; have HB2 : Hid (Below w.heap.size w w2) := Lib.hid (HB1.out.trans (hb2.mono HB1.out.size)); have hp2 := HP1.out.below hb2 (by have := HP1.out.lt; omega); have HP2 := Lib.hid hp2; obtain ⟨r0, r1, t0, t1, tl⟩ := hp2.two; clear hp2) | ((with_reducible refine (forth_any _ _ w1 (by omega)).mono ?_); rintro e w2 ⟨rfl, hb2⟩; have HB2 : Hid (Below w.heap.size w w2) := Lib.hid (HB1.out.trans (hb2.mono HB1.out.size))))
  all_goals
    first
    | (obtain ⟨V, hV⟩ : ∃ V, w2.alloc (.cells #[.int .i64 v, .int .i64 (v + cc)] 196) = V := ⟨_, rfl⟩
       have HM : Hid (Blk V w2.heap.size 196 #[.int .i64 v, .int .i64 (v + cc)]) := Lib.hid (by rw [← hV]; exact Blk.new _ _ _)
       have HBV : Hid (Below w.heap.size w V) := Lib.hid (by rw [← hV]; exact HB2.out.alloc HB2.out.size _)
       rw [hV]
       clear hV
       obtain ⟨c0, c1, z0, z1, zl⟩ := HM.out.two
       have HSV : Hid (St V g h nx (.slice Af nf kf) (.slice Ab nb kb) c.share) := Lib.hid (HS.out.below HBV.out HS.out.lt)
       go_wp2_with ((with_reducible refine (remember_any g nx (v, (v + cc)) h _ _ _ _ HSV.out HN.out).mono ?_); rintro e w3 ⟨rfl, hs3, hg3⟩)
       go_ret
       exact ⟨ret_i HO.out.symm, HMM.out ▸ hs3, grown_tr (grown_of HBV.out) hg3⟩)
    | (obtain ⟨V, hV⟩ : ∃ V, (w2.setCell ⟨w1.heap.size, 0, none⟩ (.int .i64 v)).setCell ⟨w1.heap.size, 1, none⟩ (.int .i64 (v + cc)) = V := ⟨_, rfl⟩
       have HM : Hid (Blk V w1.heap.size 196 #[.int .i64 v, .int .i64 (v + cc)]) := Lib.hid (by rw [← hV]; exact (HP2.out.set_ 0 _).set_ 1 _)
       have HBV : Hid (Below w.heap.size w V) := Lib.hid (by rw [← hV]; exact (HB2.out.setCell HB1.out.size _).setCell HB1.out.size _)
       rw [hV]
       clear hV r0 r1 t0 t1
       obtain ⟨c0, c1, z0, z1, zl⟩ := HM.out.two
       have HSV : Hid (St V g h nx (.slice Af nf kf) (.slice Ab nb kb) c.share) := Lib.hid (HS.out.below HBV.out HS.out.lt)
       go_wp2_with ((with_reducible refine (remember_any g nx (v, (v + cc)) h _ _ _ _ HSV.out HN.out).mono ?_); rintro e w3 ⟨rfl, hs3, hg3⟩)
       go_ret
       exact ⟨ret_i HO.out.symm, HMM.out ▸ hs3, grown_tr (grown_of HBV.out) hg3⟩)
    | (obtain ⟨V, hV⟩ : ∃ V, (w2.setCell ⟨w.heap.size, 0, none⟩ (.int .i64 v)).setCell ⟨w.heap.size, 1, none⟩ (.int .i64 (v + cc)) = V := ⟨_, rfl⟩
       have HM : Hid (Blk V w.heap.size 196 #[.int .i64 v, .int .i64 (v + cc)]) := Lib.hid (by rw [← hV]; exact (HP2.out.set_ 0 _).set_ 1 _)
       have HBV : Hid (Below w.heap.size w V) := Lib.hid (by rw [← hV]; exact (HB2.out.setCell (Nat.le_refl _) _).setCell (Nat.le_refl _) _)
       rw [hV]
       clear hV r0 r1 t0 t1
       obtain ⟨c0, c1, z0, z1, zl⟩ := HM.out.two
       have HSV : Hid (St V g h nx (.slice Af nf kf) (.slice Ab nb kb) c.share) := Lib.hid (HS.out.below HBV.out HS.out.lt)
       go_wp2_with ((with_reducible refine (remember_any g nx (v, (v + cc)) h _ _ _ _ HSV.out HN.out).mono ?_); rintro e w3 ⟨rfl, hs3, hg3⟩)
       go_ret
       exact ⟨ret_i HO.out.symm, HMM.out ▸ hs3, grown_tr (grown_of HBV.out) hg3⟩)


set_option maxRecDepth 100000 in
set_option maxHeartbeats 2000000 in
theorem step_back_any (B g gd nx : Nat) (c : Cur) (h : List (Int × Int)) (Af Ab : Option Addr) (nf kf nb kb : Nat) (v : Int) (w : World)
    (hs : St w g h nx (.slice Af nf kf) (.slice Ab nb kb) c.share) (hd : Blk w gd 145 #[]) (hn : nx < 8) (hf : LI w B Af nf c.feed) (hb : LI w B Ab nb c.back) (hB : B ≤ w.heap.size) (hc : CurOk c) (hh : Small h)
    (hv : -1099511627776 ≤ v ∧ v ≤ 1099511627776) :
    Calls Try.prog 171 #[.int .i64 v, .pointer (some ⟨gd, 0, none⟩), .pointer (some ⟨g, 0, none⟩)] w
      (RemPost w g (mom false c h v :: h) ((nx + 1) % 8) (.slice Af nf kf) (.slice Ab nb kb) c.share (.int .i64 (outM false (mom false c h v)))) := by
  have hcb := cor_bd hc hh
  have HC := Lib.hid hc
  have HH := Lib.hid hh
  have HS := Lib.hid hs
  have HF := Lib.hid (hf.more hB)
  have HB := Lib.hid (hb.more hB)
  have hg := hs.lt
  have hgd := hd.lt
  have HD := Lib.hid hd
  have HN := Lib.hid hn
  clear hs hd hf hb hc hh hn hB
  obtain ⟨cc, hcc⟩ : ∃ x, cor c h = x := ⟨_, rfl⟩
  rw [hcc] at hcb
  have HCC := Lib.hid hcc
  clear hcc
  have HMM : Hid (((v - cc), v) = mom false c h v) := Lib.hid (by rw [← HCC.out]; rfl)
  have HO : Hid (outM false (mom false c h v) = (v - cc)) := Lib.hid (by rw [← HCC.out]; rfl)
  go_enter Try.func171, Try.ntmps171
  have hm : ∀ w, (method 239 145 (.agg #[]) "deadwax/filter.turn").run Try.prog w = .ok (220, .agg #[]) w := fun _ => by kernel_rfl
  have hm2 : ∀ w, (method 347 145 (.agg #[]) "deadwax/filter.turn").run Try.prog w = .ok (220, .agg #[]) w := fun _ => by kernel_rfl
  go_wp2_with fail
  go_region_with (first | ((with_reducible refine (correction_any w.heap.size g nx c h Af Ab nf kf nb kb w.drew HS.out.drew HN.out (HF.out.below (Below.refl _ _).drew (Nat.le_refl _)) (HB.out.below (Below.refl _ _).drew (Nat.le_refl _)) (by simp) HC.out HH.out).mono ?_); rintro e w1 ⟨rfl, hb1⟩; rw [HCC.out]; have HB1 : Hid (Below w.heap.size w w1) := Lib.hid ((Below.refl _ _).drew.trans hb1)) | ((with_reducible refine (correction_any w.heap.size g nx c h Af Ab nf kf nb kb ((w.alloc (.cells #[.int .i64 0, .int .i64 0] 196)).drew) ((HS.out.alloc _).drew) HN.out (HF.out.below ((Below.refl _ _).alloc (Nat.le_refl _) _).drew (Nat.le_refl _)) (HB.out.below ((Below.refl _ _).alloc (Nat.le_refl _) _).drew (Nat.le_refl _)) (by simp) HC.out HH.out).mono ?_); rintro e w1 ⟨rfl, hb1⟩; rw [HCC.out]; have HB1 : Hid (Below w.heap.size w w1) := Lib.hid (((Below.refl _ _).alloc (Nat.le_refl _) _).drew.trans (hb1.mono (by simp))); have HP1 : Hid (Blk w1 w.heap.size 196 #[.int .i64 0, .int .i64 0]) := Lib.hid ((Blk.new w _ _).drew.below hb1 (by simp))) | ((with_reducible refine (back_any _ _ (w1.alloc (.cells #[.int .i64 0, .int .i64 0] 196)) (by omega)).mono ?_); rintro e w2 ⟨rfl, hb2⟩; have HB2 : Hid (Below w.heap.size w w2) := Lib.hid ((HB1.out.alloc (by have := HB1.out.size; omega) _).trans (hb2.mono (by have := HB1.out.size; simp; omega))); have hp2 := (Blk.new w1 _ _).below hb2 (by simp); have HP2 := Lib.hid hp2; obtain ⟨r0, r1, t0, t1, tl⟩ := hp2.two; clear hp2) | ((with_reducible refine (back_any _ _ w1 (by omega)).mono ?_); rintro e w2 ⟨rfl, hb2⟩; have HB2 : Hid (Below w.heap.size w w2) := Lib.hid (HB1.out.trans (hb2.mono HB1.out.size)); have hp2 := HP1.out.below hb2 (by have := HP1.out.lt; omega); have HP2 := Lib.hid hp2; obtain ⟨r0, r1, t0, t1, tl⟩ := hp2.two; clear hp2) | ((with_reducible refine (back_any _ _ w1 (by omega)).mono ?_); rintro e w2 ⟨rfl, hb2⟩; have HB2 : Hid (Below w.heap.size w w2) := Lib.hid (HB1.out.trans (hb2.mono HB1.out.size))))
  all_goals
    first
    | (obtain ⟨V, hV⟩ : ∃ V, w2.alloc (.cells #[.int .i64 (v - cc), .int .i64 v] 196) = V := ⟨_, rfl⟩
       have HM : Hid (Blk V w2.heap.size 196 #[.int .i64 (v - cc), .int .i64 v]) := Lib.hid (by rw [← hV]; exact Blk.new _ _ _)
       have HBV : Hid (Below w.heap.size w V) := Lib.hid (by rw [← hV]; exact HB2.out.alloc HB2.out.size _)
       rw [hV]
       clear hV
       obtain ⟨c0, c1, z0, z1, zl⟩ := HM.out.two
       have HSV : Hid (St V g h nx (.slice Af nf kf) (.slice Ab nb kb) c.share) := Lib.hid (HS.out.below HBV.out HS.out.lt)
       go_wp2_with ((with_reducible refine (remember_any g nx ((v - cc), v) h _ _ _ _ HSV.out HN.out).mono ?_); rintro e w3 ⟨rfl, hs3, hg3⟩)
       go_ret
       exact ⟨ret_i HO.out.symm, HMM.out ▸ hs3, grown_tr (grown_of HBV.out) hg3⟩)
    | (obtain ⟨V, hV⟩ : ∃ V, (w2.setCell ⟨w1.heap.size, 0, none⟩ (.int .i64 (v - cc))).setCell ⟨w1.heap.size, 1, none⟩ (.int .i64 v) = V := ⟨_, rfl⟩
       have HM : Hid (Blk V w1.heap.size 196 #[.int .i64 (v - cc), .int .i64 v]) := Lib.hid (by rw [← hV]; exact (HP2.out.set_ 0 _).set_ 1 _)
       have HBV : Hid (Below w.heap.size w V) := Lib.hid (by rw [← hV]; exact (HB2.out.setCell HB1.out.size _).setCell HB1.out.size _)
       rw [hV]
       clear hV r0 r1 t0 t1
       obtain ⟨c0, c1, z0, z1, zl⟩ := HM.out.two
       have HSV : Hid (St V g h nx (.slice Af nf kf) (.slice Ab nb kb) c.share) := Lib.hid (HS.out.below HBV.out HS.out.lt)
       go_wp2_with ((with_reducible refine (remember_any g nx ((v - cc), v) h _ _ _ _ HSV.out HN.out).mono ?_); rintro e w3 ⟨rfl, hs3, hg3⟩)
       go_ret
       exact ⟨ret_i HO.out.symm, HMM.out ▸ hs3, grown_tr (grown_of HBV.out) hg3⟩)
    | (obtain ⟨V, hV⟩ : ∃ V, (w2.setCell ⟨w.heap.size, 0, none⟩ (.int .i64 (v - cc))).setCell ⟨w.heap.size, 1, none⟩ (.int .i64 v) = V := ⟨_, rfl⟩
       have HM : Hid (Blk V w.heap.size 196 #[.int .i64 (v - cc), .int .i64 v]) := Lib.hid (by rw [← hV]; exact (HP2.out.set_ 0 _).set_ 1 _)
       have HBV : Hid (Below w.heap.size w V) := Lib.hid (by rw [← hV]; exact (HB2.out.setCell (Nat.le_refl _) _).setCell (Nat.le_refl _) _)
       rw [hV]
       clear hV r0 r1 t0 t1
       obtain ⟨c0, c1, z0, z1, zl⟩ := HM.out.two
       have HSV : Hid (St V g h nx (.slice Af nf kf) (.slice Ab nb kb) c.share) := Lib.hid (HS.out.below HBV.out HS.out.lt)
       go_wp2_with ((with_reducible refine (remember_any g nx ((v - cc), v) h _ _ _ _ HSV.out HN.out).mono ?_); rintro e w3 ⟨rfl, hs3, hg3⟩)
       go_ret
       exact ⟨ret_i HO.out.symm, HMM.out ▸ hs3, grown_tr (grown_of HBV.out) hg3⟩)
end Go.Proofs.Ytjaomjbhkgijbaa

