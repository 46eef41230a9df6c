/-
  The two directions; a curve that runs, as a step.
-/
import Derived.Test.YtilihdkfflfniaaU2
import Derived.Deep.QuietTactic
import Derived.BigQuiet
import Derived.Deep.RegionWith
namespace Go.Proofs.Ytilihdkfflfniaa
open Go.RowKit

set_option maxRecDepth 100000 in
set_option maxHeartbeats 1000000 in
theorem forth_any (x c : Int) (w : World) (h : -4611686018427387904 ≤ x + c ∧ x + c ≤ 4611686018427387904) :
    Calls Try.prog 108 #[.agg #[], .int .i64 x, .int .i64 c] w fun e w' => e = .returned (.tuple #[.int .i64 (x + c), .agg #[.int .i64 x, .int .i64 (x + c)]]) ∧ Below w.heap.size w w' := by
  have e1 : IntKind.i64.wrap (x + c) = x + c := IntWalk.i64_in _ (by omega)
  go_enter Try.func108, Try.ntmps108
  go_wp2
  refine bodyPost_ret (v := .tuple #[.int .i64 (x + c), .agg #[.int .i64 x, .int .i64 (x + c)]]) ?_ rfl ⟨rfl, ?_⟩
  · simp [results, Try.results108, go_sem]
  · exact ((Below.refl _ _).alloc (Nat.le_refl _) _).alloc (by simp) _

set_option maxRecDepth 100000 in
set_option maxHeartbeats 1000000 in
theorem back_any (x c : Int) (w : World) (h : -4611686018427387904 ≤ x - c ∧ x - c ≤ 4611686018427387904) :
    Calls Try.prog 109 #[.agg #[], .int .i64 x, .int .i64 c] w fun e w' => e = .returned (.tuple #[.int .i64 (x - c), .agg #[.int .i64 (x - c), .int .i64 x]]) ∧ Below w.heap.size w w' := by
  have e1 : IntKind.i64.wrap (x - c) = x - c := IntWalk.i64_in _ (by omega)
  go_enter Try.func109, Try.ntmps109
  go_wp2
  refine bodyPost_ret (v := .tuple #[.int .i64 (x - c), .agg #[.int .i64 (x - c), .int .i64 x]]) ?_ rfl ⟨rfl, ?_⟩
  · simp [results, Try.results109, go_sem]
  · exact ((Below.refl _ _).alloc (Nat.le_refl _) _).alloc (by simp) _

theorem grown_of {w w' : World} {g : Nat} (h : Below w.heap.size w w') : w.grownBy w' (some g) := ⟨h.os, h.tape, h.output, h.size, fun i hi _ => h.block i hi⟩
theorem grown_tr {w w' w'' : World} {g : Nat} (h : w.grownBy w' (some g)) (h' : w'.grownBy w'' (some g)) : w.grownBy w'' (some g) :=
  ⟨h'.os.trans h.os, h'.tape.trans h.tape, h'.output.trans h.output, Nat.le_trans h.size h'.size, fun i hi hne => (h'.block i (Nat.lt_of_lt_of_le hi h.size) hne).trans (h.block i hi hne)⟩
theorem cor_bd {c : Cur} {h : List (Int × Int)} (hc : CurOk c) (hh : Small h) : -72057594037927936 ≤ cor c h ∧ cor c h ≤ 72057594037927936 := by
  obtain ⟨c1, c2, c3, c4, c5, c6⟩ := hc
  have h1 := sum_small c3 (fun i => (hh.at_ i).1) (k := c.feed.length) c1
  have h2 := sum_small c4 (fun i => (hh.at_ i).2) (k := c.back.length) c2
  have h3 : -72057594037927936 ≤ corS c h ∧ corS c h ≤ 72057594037927936 := by unfold corS; omega
  have h4 := Int.mul_le_mul_of_nonneg_left c5 (show (0 : Int) ≤ 72057594037927936 by omega)
  unfold cor
  constructor
  · rw [Int.le_ediv_iff_mul_le (by omega)]; omega
  · exact Int.ediv_le_of_le_mul (by omega) (by omega)

set_option maxRecDepth 100000 in
set_option maxHeartbeats 2000000 in
theorem step_forth_any (B g gd nx : Nat) (c : Cur) (h : List (Int × Int)) (Af Ab : Option Addr) (nf kf nb kb : Nat) (v : Int) (w : World)
    (hs : St w g h nx (.slice Af nf kf) (.slice Ab nb kb) c.share) (hd : Blk w gd 68 #[]) (hn : nx < 8) (hf : LI w B Af nf c.feed) (hb : LI w B Ab nb c.back) (hB : B ≤ w.heap.size) (hc : CurOk c) (hh : Small h)
    (hv : -1099511627776 ≤ v ∧ v ≤ 1099511627776) :
    Calls Try.prog 78 #[.int .i64 v, .pointer (some ⟨gd, 0, none⟩), .pointer (some ⟨g, 0, none⟩)] w
      (RemPost w g (mom true c h v :: h) ((nx + 1) % 8) (.slice Af nf kf) (.slice Ab nb kb) c.share (.int .i64 (outM true (mom true c h v)))) := by
  have hcb := cor_bd hc hh
  have HC := Lib.hid hc
  have HH := Lib.hid hh
  have HS := Lib.hid hs
  have HF := Lib.hid (hf.more hB)
  have HB := Lib.hid (hb.more hB)
  have hg := hs.lt
  have hgd := hd.lt
  have HD := Lib.hid hd
  have HN := Lib.hid hn
  clear hs hd hf hb hc hh hn hB
  obtain ⟨cc, hcc⟩ : ∃ x, cor c h = x := ⟨_, rfl⟩
  rw [hcc] at hcb
  have HCC := Lib.hid hcc
  clear hcc
  have HMM : Hid ((v, (v + cc)) = mom true c h v) := Lib.hid (by rw [← HCC.out]; rfl)
  have HO : Hid (outM true (mom true c h v) = (v + cc)) := Lib.hid (by rw [← HCC.out]; rfl)
  go_enter Try.func78, Try.ntmps78
  have hm : ∀ w, (method 239 68 (.agg #[]) "deadwax/filter.turn").run Try.prog w = .ok (108, .agg #[]) w := fun _ => by kernel_rfl
  have hm2 : ∀ w, (method 347 68 (.agg #[]) "deadwax/filter.turn").run Try.prog w = .ok (108, .agg #[]) w := fun _ => by kernel_rfl
  have hm3 : ∀ w, (method 218 68 (.agg #[]) "deadwax/filter.turn").run Try.prog w = .ok (108, .agg #[]) w := fun _ => by kernel_rfl
  have hm4 : ∀ w, (method 229 68 (.agg #[]) "deadwax/filter.turn").run Try.prog w = .ok (108, .agg #[]) w := fun _ => by kernel_rfl
  go_wp2_with fail
  go_region_with (first | ((with_reducible refine (correction_any w.heap.size g nx c h Af Ab nf kf nb kb w.drew HS.out.drew HN.out (HF.out.below (Below.refl _ _).drew (Nat.le_refl _)) (HB.out.below (Below.refl _ _).drew (Nat.le_refl _)) (by simp) HC.out HH.out).mono ?_); rintro e w1 ⟨rfl, hb1⟩; rw [HCC.out]; have HB1 : Hid (Below w.heap.size w w1) := Lib.hid ((Below.refl _ _).drew.trans hb1)) | ((with_reducible refine (correction_any w.heap.size g nx c h Af Ab nf kf nb kb ((w.alloc (.cells #[.int .i64 0, .int .i64 0] 94)).drew) ((HS.out.alloc _).drew) HN.out (HF.out.below ((Below.refl _ _).alloc (Nat.le_refl _) _).drew (Nat.le_refl _)) (HB.out.below ((Below.refl _ _).alloc (Nat.le_refl _) _).drew (Nat.le_refl _)) (by simp) HC.out HH.out).mono ?_); rintro e w1 ⟨rfl, hb1⟩; rw [HCC.out]; have HB1 : Hid (Below w.heap.size w w1) := Lib.hid (((Below.refl _ _).alloc (Nat.le_refl _) _).drew.trans (hb1.mono (by simp))); have HP1 : Hid (Blk w1 w.heap.size 94 #[.int .i64 0, .int .i64 0]) := Lib.hid ((Blk.new w _ _).drew.below hb1 (by simp))) | ((with_reducible refine (forth_any _ _ (w1.alloc (.cells #[.int .i64 0, .int .i64 0] 94)) (by omega)).mono ?_); rintro e w2 ⟨rfl, hb2⟩; have HB2 : Hid (Below w.heap.size w w2) := Lib.hid ((HB1.out.alloc (by have := HB1.out.size; omega) _).trans (hb2.mono (by have := HB1.out.size; simp; omega))); have hp2 := (Blk.new w1 _ _).below hb2 (by simp); have HP2 := Lib.hid hp2; obtain ⟨r0, r1, t0, t1, tl⟩ := hp2.two; clear hp2) | ((with_reducible refine (forth_any _ _ w1 (by omega)).mono ?_); rintro e w2 ⟨rfl, hb2⟩; have HB2 : Hid (Below w.heap.size w w2) := Lib.hid (HB1.out.trans (hb2.mono HB1.out.size)); have hp2 := HP1.out.below hb2 (by have := HP1.out.lt; omega); have HP2 := Lib.hid hp2; obtain ⟨r0, r1, t0, t1, tl⟩ := hp2.two; clear hp2) | ((with_reducible refine (forth_any _ _ w1 (by omega)).mono ?_); rintro e w2 ⟨rfl, hb2⟩; have HB2 : Hid (Below w.heap.size w w2) := Lib.hid (HB1.out.trans (hb2.mono HB1.out.size))))
  all_goals
    first
    | (obtain ⟨V, hV⟩ : ∃ V, w2.alloc (.cells #[.int .i64 v, .int .i64 (v + cc)] 94) = V := ⟨_, rfl⟩
       have HM : Hid (Blk V w2.heap.size 94 #[.int .i64 v, .int .i64 (v + cc)]) := Lib.hid (by rw [← hV]; exact Blk.new _ _ _)
       have HBV : Hid (Below w.heap.size w V) := Lib.hid (by rw [← hV]; exact HB2.out.alloc HB2.out.size _)
       rw [hV]
       clear hV
       obtain ⟨c0, c1, z0, z1, zl⟩ := HM.out.two
       have HSV : Hid (St V g h nx (.slice Af nf kf) (.slice Ab nb kb) c.share) := Lib.hid (HS.out.below HBV.out HS.out.lt)
       go_wp2_with ((with_reducible refine (remember_any g nx (v, (v + cc)) h _ _ _ _ HSV.out HN.out).mono ?_); rintro e w3 ⟨rfl, hs3, hg3⟩)
       go_ret
       exact ⟨ret_i HO.out.symm, HMM.out ▸ hs3, grown_tr (grown_of HBV.out) hg3⟩)
    | (obtain ⟨V, hV⟩ : ∃ V, (w2.setCell ⟨w1.heap.size, 0, none⟩ (.int .i64 v)).setCell ⟨w1.heap.size, 1, none⟩ (.int .i64 (v + cc)) = V := ⟨_, rfl⟩
       have HM : Hid (Blk V w1.heap.size 94 #[.int .i64 v, .int .i64 (v + cc)]) := Lib.hid (by rw [← hV]; exact (HP2.out.set_ 0 _).set_ 1 _)
       have HBV : Hid (Below w.heap.size w V) := Lib.hid (by rw [← hV]; exact (HB2.out.setCell HB1.out.size _).setCell HB1.out.size _)
       rw [hV]
       clear hV r0 r1 t0 t1
       obtain ⟨c0, c1, z0, z1, zl⟩ := HM.out.two
       have HSV : Hid (St V g h nx (.slice Af nf kf) (.slice Ab nb kb) c.share) := Lib.hid (HS.out.below HBV.out HS.out.lt)
       go_wp2_with ((with_reducible refine (remember_any g nx (v, (v + cc)) h _ _ _ _ HSV.out HN.out).mono ?_); rintro e w3 ⟨rfl, hs3, hg3⟩)
       go_ret
       exact ⟨ret_i HO.out.symm, HMM.out ▸ hs3, grown_tr (grown_of HBV.out) hg3⟩)
    | (obtain ⟨V, hV⟩ : ∃ V, (w2.setCell ⟨w.heap.size, 0, none⟩ (.int .i64 v)).setCell ⟨w.heap.size, 1, none⟩ (.int .i64 (v + cc)) = V := ⟨_, rfl⟩
       have HM : Hid (Blk V w.heap.size 94 #[.int .i64 v, .int .i64 (v + cc)]) := Lib.hid (by rw [← hV]; exact (HP2.out.set_ 0 _).set_ 1 _)
       have HBV : Hid (Below w.heap.size w V) := Lib.hid (by rw [← hV]; exact (HB2.out.setCell (Nat.le_refl _) _).setCell (Nat.le_refl _) _)
       rw [hV]
       clear hV r0 r1 t0 t1
       obtain ⟨c0, c1, z0, z1, zl⟩ := HM.out.two
       have HSV : Hid (St V g h nx (.slice Af nf kf) (.slice Ab nb kb) c.share) := Lib.hid (HS.out.below HBV.out HS.out.lt)
       go_wp2_with ((with_reducible refine (remember_any g nx (v, (v + cc)) h _ _ _ _ HSV.out HN.out).mono ?_); rintro e w3 ⟨rfl, hs3, hg3⟩)
       go_ret
       exact ⟨ret_i HO.out.symm, HMM.out ▸ hs3, grown_tr (grown_of HBV.out) hg3⟩)


set_option maxRecDepth 100000 in
set_option maxHeartbeats 2000000 in
theorem step_back_any (B g gd nx : Nat) (c : Cur) (h : List (Int × Int)) (Af Ab : Option Addr) (nf kf nb kb : Nat) (v : Int) (w : World)
    (hs : St w g h nx (.slice Af nf kf) (.slice Ab nb kb) c.share) (hd : Blk w gd 73 #[]) (hn : nx < 8) (hf : LI w B Af nf c.feed) (hb : LI w B Ab nb c.back) (hB : B ≤ w.heap.size) (hc : CurOk c) (hh : Small h)
    (hv : -1099511627776 ≤ v ∧ v ≤ 1099511627776) :
    Calls Try.prog 82 #[.int .i64 v, .pointer (some ⟨gd, 0, none⟩), .pointer (some ⟨g, 0, none⟩)] w
      (RemPost w g (mom false c h v :: h) ((nx + 1) % 8) (.slice Af nf kf) (.slice Ab nb kb) c.share (.int .i64 (outM false (mom false c h v)))) := by
  have hcb := cor_bd hc hh
  have HC := Lib.hid hc
  have HH := Lib.hid hh
  have HS := Lib.hid hs
  have HF := Lib.hid (hf.more hB)
  have HB := Lib.hid (hb.more hB)
  have hg := hs.lt
  have hgd := hd.lt
  have HD := Lib.hid hd
  have HN := Lib.hid hn
  clear hs hd hf hb hc hh hn hB
  obtain ⟨cc, hcc⟩ : ∃ x, cor c h = x := ⟨_, rfl⟩
  rw [hcc] at hcb
  have HCC := Lib.hid hcc
  clear hcc
  have HMM : Hid (((v - cc), v) = mom false c h v) := Lib.hid (by rw [← HCC.out]; rfl)
  have HO : Hid (outM false (mom false c h v) = (v - cc)) := Lib.hid (by rw [← HCC.out]; rfl)
  go_enter Try.func82, Try.ntmps82
  have hm : ∀ w, (method 239 73 (.agg #[]) "deadwax/filter.turn").run Try.prog w = .ok (109, .agg #[]) w := fun _ => by kernel_rfl
  have hm2 : ∀ w, (method 347 73 (.agg #[]) "deadwax/filter.turn").run Try.prog w = .ok (109, .agg #[]) w := fun _ => by kernel_rfl
  have hm3 : ∀ w, (method 218 73 (.agg #[]) "deadwax/filter.turn").run Try.prog w = .ok (109, .agg #[]) w := fun _ => by kernel_rfl
  have hm4 : ∀ w, (method 229 73 (.agg #[]) "deadwax/filter.turn").run Try.prog w = .ok (109, .agg #[]) w := fun _ => by kernel_rfl
  go_wp2_with fail
  go_region_with (first | ((with_reducible refine (correction_any w.heap.size g nx c h Af Ab nf kf nb kb w.drew HS.out.drew HN.out (HF.out.below (Below.refl _ _).drew (Nat.le_refl _)) (HB.out.below (Below.refl _ _).drew (Nat.le_refl _)) (by simp) HC.out HH.out).mono ?_); rintro e w1 ⟨rfl, hb1⟩; rw [HCC.out]; have HB1 : Hid (Below w.heap.size w w1) := Lib.hid ((Below.refl _ _).drew.trans hb1)) | ((with_reducible refine (correction_any w.heap.size g nx c h Af Ab nf kf nb kb ((w.alloc (.cells #[.int .i64 0, .int .i64 0] 94)).drew) ((HS.out.alloc _).drew) HN.out (HF.out.below ((Below.refl _ _).alloc (Nat.le_refl _) _).drew (Nat.le_refl _)) (HB.out.below ((Below.refl _ _).alloc (Nat.le_refl _) _).drew (Nat.le_refl _)) (by simp) HC.out HH.out).mono ?_); rintro e w1 ⟨rfl, hb1⟩; rw [HCC.out]; have HB1 : Hid (Below w.heap.size w w1) := Lib.hid (((Below.refl _ _).alloc (Nat.le_refl _) _).drew.trans (hb1.mono (by simp))); have HP1 : Hid (Blk w1 w.heap.size 94 #[.int .i64 0, .int .i64 0]) := Lib.hid ((Blk.new w _ _).drew.below hb1 (by simp))) | ((with_reducible refine (back_any _ _ (w1.alloc (.cells #[.int .i64 0, .int .i64 0] 94)) (by omega)).mono ?_); rintro e w2 ⟨rfl, hb2⟩; have HB2 : Hid (Below w.heap.size w w2) := Lib.hid ((HB1.out.alloc (by have := HB1.out.size; omega) _).trans (hb2.mono (by have := HB1.out.size; simp; omega))); have hp2 := (Blk.new w1 _ _).below hb2 (by simp); have HP2 := Lib.hid hp2; obtain ⟨r0, r1, t0, t1, tl⟩ := hp2.two; clear hp2) | ((with_reducible refine (back_any _ _ w1 (by omega)).mono ?_); rintro e w2 ⟨rfl, hb2⟩; have HB2 : Hid (Below w.heap.size w w2) := Lib.hid (HB1.out.trans (hb2.mono HB1.out.size)); have hp2 := HP1.out.below hb2 (by have := HP1.out.lt; omega); have HP2 := Lib.hid hp2; obtain ⟨r0, r1, t0, t1, tl⟩ := hp2.two; clear hp2) | ((with_reducible refine (back_any _ _ w1 (by omega)).mono ?_); rintro e w2 ⟨rfl, hb2⟩; have HB2 : Hid (Below w.heap.size w w2) := Lib.hid (HB1.out.trans (hb2.mono HB1.out.size))))
  all_goals
    first
    | (obtain ⟨V, hV⟩ : ∃ V, w2.alloc (.cells #[.int .i64 (v - cc), .int .i64 v] 94) = V := ⟨_, rfl⟩
       have HM : Hid (Blk V w2.heap.size 94 #[.int .i64 (v - cc), .int .i64 v]) := Lib.hid (by rw [← hV]; exact Blk.new _ _ _)
       have HBV : Hid (Below w.heap.size w V) := Lib.hid (by rw [← hV]; exact HB2.out.alloc HB2.out.size _)
       rw [hV]
       clear hV
       obtain ⟨c0, c1, z0, z1, zl⟩ := HM.out.two
       have HSV : Hid (St V g h nx (.slice Af nf kf) (.slice Ab nb kb) c.share) := Lib.hid (HS.out.below HBV.out HS.out.lt)
       go_wp2_with ((with_reducible refine (remember_any g nx ((v - cc), v) h _ _ _ _ HSV.out HN.out).mono ?_); rintro e w3 ⟨rfl, hs3, hg3⟩)
       go_ret
       exact ⟨ret_i HO.out.symm, HMM.out ▸ hs3, grown_tr (grown_of HBV.out) hg3⟩)
    | (obtain ⟨V, hV⟩ : ∃ V, (w2.setCell ⟨w1.heap.size, 0, none⟩ (.int .i64 (v - cc))).setCell ⟨w1.heap.size, 1, none⟩ (.int .i64 v) = V := ⟨_, rfl⟩
       have HM : Hid (Blk V w1.heap.size 94 #[.int .i64 (v - cc), .int .i64 v]) := Lib.hid (by rw [← hV]; exact (HP2.out.set_ 0 _).set_ 1 _)
       have HBV : Hid (Below w.heap.size w V) := Lib.hid (by rw [← hV]; exact (HB2.out.setCell HB1.out.size _).setCell HB1.out.size _)
       rw [hV]
       clear hV r0 r1 t0 t1
       obtain ⟨c0, c1, z0, z1, zl⟩ := HM.out.two
       have HSV : Hid (St V g h nx (.slice Af nf kf) (.slice Ab nb kb) c.share) := Lib.hid (HS.out.below HBV.out HS.out.lt)
       go_wp2_with ((with_reducible refine (remember_any g nx ((v - cc), v) h _ _ _ _ HSV.out HN.out).mono ?_); rintro e w3 ⟨rfl, hs3, hg3⟩)
       go_ret
       exact ⟨ret_i HO.out.symm, HMM.out ▸ hs3, grown_tr (grown_of HBV.out) hg3⟩)
    | (obtain ⟨V, hV⟩ : ∃ V, (w2.setCell ⟨w.heap.size, 0, none⟩ (.int .i64 (v - cc))).setCell ⟨w.heap.size, 1, none⟩ (.int .i64 v) = V := ⟨_, rfl⟩
       have HM : Hid (Blk V w.heap.size 94 #[.int .i64 (v - cc), .int .i64 v]) := Lib.hid (by rw [← hV]; exact (HP2.out.set_ 0 _).set_ 1 _)
       have HBV : Hid (Below w.heap.size w V) := Lib.hid (by rw [← hV]; exact (HB2.out.setCell (Nat.le_refl _) _).setCell (Nat.le_refl _) _)
       rw [hV]
       clear hV r0 r1 t0 t1
       obtain ⟨c0, c1, z0, z1, zl⟩ := HM.out.two
       have HSV : Hid (St V g h nx (.slice Af nf kf) (.slice Ab nb kb) c.share) := Lib.hid (HS.out.below HBV.out HS.out.lt)
       go_wp2_with ((with_reducible refine (remember_any g nx ((v - cc), v) h _ _ _ _ HSV.out HN.out).mono ?_); rintro e w3 ⟨rfl, hs3, hg3⟩)
       go_ret
       exact ⟨ret_i HO.out.symm, HMM.out ▸ hs3, grown_tr (grown_of HBV.out) hg3⟩)
end Go.Proofs.Ytilihdkfflfniaa
