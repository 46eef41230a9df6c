/-
  Numbers through steps: the contract of through.
-/
import Derived.Test.YtilihdkfflfniaaU5
import Derived.Test.YtilihdkfflfniaaU7
import Derived.Test.YtilihdkfflfniaaOr
import Derived.RangeFuncOwn
import Derived.RangeFuncCalls
namespace Go.Proofs.Ytilihdkfflfniaa
open Go.RowKit

/-- What a call leaves that returns a list of numbers and an error. -/
def OutPost (B : Nat) (w : World) (R : List Int) (er : Int) (e : Ending) (w' : World) : Prop :=
  ∃ v, e = .returned (.tuple #[v, .int .i64 er]) ∧ w'.ownsRow B 2 1 v R.length (nums R) ∧ Below B w w'
/-- A list, or none: too great. -/
def OptPost (B : Nat) (w : World) (R : Option (List Int)) (e : Ending) (w' : World) : Prop := OutPost B w (R.getD []) (if R = none then 4 else 0) e w'
set_option maxRecDepth 100000 in
set_option maxHeartbeats 4000000 in
theorem through_any (dir : Bool) (B sb : Nat) (A : Option Addr) (n k : Nat) (rs : List SR) (hs : List (List (Int × Int))) (Ax : Option Addr) (nx kx : Nat) (xs : List Int) (most : Int) (w : World)
    (hO : w.ownsRow sb 65 1 (.slice A n k) n (rs.map (SR.val dir))) (hn : n = rs.length) (hL : Lives w B dir rs hs) (hX : LI w B Ax nx xs) (hB : B ≤ w.heap.size) (hn8 : n ≤ 8) (hx4 : nx ≤ 4096)
    (hw : ∀ x ∈ xs, wib x most = true) (hm0 : 0 ≤ most) (hm : most ≤ 1099511627776) :
    Calls Try.prog 50 #[.slice A n k, .slice Ax nx kx, .int .i64 most] w (fun e w' => OptPost B w (thr dir most (rs.map SR.c) hs xs) e w' ∧ KeepsOthers w w') := by
  have HN := Lib.hid hn
  have HNX := Lib.hid hX.1
  have HX := Lib.hid hX
  have HW := Lib.hid hw
  have HL := Lib.hid hL
  have HO := Lib.hid hO
  clear hX hw hL hO hn
  obtain ⟨R, hR⟩ : ∃ R, thr dir most (rs.map SR.c) hs xs = R := ⟨_, rfl⟩
  rw [hR]
  have HR := Lib.hid hR
  clear hR
  obtain ⟨i0, hi0, hz0, hz1, hz2⟩ := info_parts info_i64
  have hmk := fun W => run_make_rowN (P := Try.prog) 22 2 i0 _ Try.underlying22 hi0 hz0 .i64 .i64 0 nx (Nat.zero_le _) (by rw [hz2]; omega) (by omega) W
  have HI0 := Lib.hid hi0
  have HZ0 := Lib.hid hz0
  have HZ1 := Lib.hid hz1
  have HZ2 := Lib.hid hz2
  rw [hz1] at hmk
  simp only [Int.natCast_zero] at hmk
  clear hi0 hz0 hz1 hz2
  go_enter Try.func50, Try.ntmps50
  go_wp2_with fail
  have hown : (w.alloc (.cells (madeCells #[.int .i64 0] nx) 2)).ownsRow w.heap.size 2 1 (.slice (some ⟨w.heap.size, 0, none⟩) 0 nx) 0 [] :=
    World.ownsRow_made (base := w.heap.size) (e := 2) (size := 1) w (madeCells (Value.int IntKind.i64 0).cells nx) nx (Nat.le_refl _) (by unfold maxLen; omega) (by rw [size_madeCells, Nat.mul_one])
  obtain ⟨W, hW⟩ : ∃ W, w.alloc (.cells (madeCells #[.int .i64 0] nx) 2) = W := ⟨_, rfl⟩
  have hbw : Below w.heap.size w W := by rw [← hW]; exact (Below.refl _ _).alloc (Nat.le_refl _) _
  rw [hW] at hown ⊢
  have HOY := Lib.hid hown
  have HOS : Hid (W.ownsRow sb 65 1 (.slice A n k) n (rs.map (SR.val dir))) := Lib.hid (own_below HO.out hbw)
  have HLW : Hid (Lives W B dir rs hs) := Lib.hid (HL.out.below hbw)
  have HBW : Hid (Below B w W) := Lib.hid (hbw.mono hB)
  have hsz := hbw.size
  have HKO : Hid (KeepsOthers w W) := Lib.hid (keeps_below hbw)
  clear hown hmk hW hbw HO HL
  go_wp2_with fail
  go_loopw [8, 18] (fun y i wr => ∃ (j : Nat) (ys : List Int) (hc : List (List (Int × Int))) (yv : Value), j ≤ nx ∧ i = .int .i64 j ∧ yv = y ∧ Hid (ys.length = j) ∧ Hid (wr.ownsRow w.heap.size 2 1 yv j (nums ys)) ∧ Hid (wr.ownsRow sb 65 1 (.slice A n k) n (rs.map (SR.val dir))) ∧ Hid (Lives wr B dir rs hc) ∧ Hid (Below B w wr) ∧ w.heap.size ≤ wr.heap.size ∧ Hid (KeepsOthers w wr) ∧ Hid (thR dir most (rs.map SR.c) hc xs j ys = R)) (fun _ i wr => nx - (intOf i).toNat)
  case atStart => exact ⟨0, [], hs, _, Nat.zero_le _, rfl, rfl, Lib.hid rfl, HOY, HOS, HLW, HBW, hsz, HKO, Lib.hid (by rw [thR_zero]; exact HR.out)⟩
  case round =>
    clear HR HOY HOS HLW HBW hsz HKO
    obtain ⟨j, ys, hc, yv, hj, rfl, rfl, HYL, HOY, HOS, HLW, HBW, hsz, HKO, HR⟩ := hrel
    by_cases hlt : j < nx
    · have hjx : j < xs.length := by have := HNX.out; omega
      obtain ⟨ad, hA, hbl, h1⟩ := (HX.out.below HBW.out (Nat.le_refl _)).at_ (k := j) hjx
      obtain rfl := hA
      have hwx := HW.out _ (List.getElem_mem hjx)
      obtain ⟨P, hP⟩ : ∃ P, pass dir most (rs.map SR.c) hc xs[j] = P := ⟨_, rfl⟩
      have HP := Lib.hid hP
      have HPV : Hid (∀ hs' o, P = (hs', some o) → thR dir most (rs.map SR.c) hs' xs (j + 1) (ys ++ [o]) = R) := Lib.hid (fun hs' o e => by rw [thR_go hjx (hP.trans e)]; exact HR.out)
      have HPN : Hid (P.2 = none → R = none) := Lib.hid (fun e => by rw [← HR.out]; exact thR_over hjx (by rw [hP]; exact e))
      clear hP
      obtain ⟨x, hx⟩ : ∃ x, xs[j] = x := ⟨_, rfl⟩
      rw [hx] at h1 hwx HP
      clear hx
      have HWX := Lib.hid hwx
      clear hwx
      go_wp2_with fail
      go_loopw [10, 24] (fun v i wr => ∃ (q : Nat) (u : Int) (hq : List (List (Int × Int))), q ≤ n ∧ i = .int .i64 q ∧ v = .int .i64 u ∧ Hid (wib u most = true) ∧ Hid (wr.ownsRow w.heap.size 2 1 yv j (nums ys)) ∧ Hid (wr.ownsRow sb 65 1 (.slice A n k) n (rs.map (SR.val dir))) ∧ Hid (Lives wr B dir rs hq) ∧ Hid (Below B w wr) ∧ w.heap.size ≤ wr.heap.size ∧ Hid (KeepsOthers w wr) ∧ Hid (psR dir most (rs.map SR.c) hq q u = P)) (fun _ i wr => n - (intOf i).toNat)
      case atStart => exact ⟨0, x, hc, Nat.zero_le _, rfl, rfl, HWX, HOY, HOS, HLW, HBW, hsz, HKO, Lib.hid (by rw [psR_zero]; exact HP.out)⟩
      case round =>
        clear HP HOY HOS HLW HBW hsz HKO HWX h1
        obtain ⟨q, u, hq, hqn, rfl, rfl, HWU, HOY, HOS, HLW, HBW, hsz, HKO, HP⟩ := hrel
        by_cases hlq : q < n
        · have hqr : q < rs.length := by have := HN.out; omega
          have hlen := HLW.out.len
          have HLN : Hid (hq.length = (rs.map SR.c).length) := Lib.hid (by rw [List.length_map]; exact hlen)
          obtain ⟨g, hA, hgl, hcell⟩ := own_at HOS.out hlq
          obtain rfl := hA
          rw [List.getElem?_map, List.getElem?_eq_getElem hqr, Option.map_some] at hcell
          have HLV := Lib.hid (HLW.out.at_ hqr)
          have HGO : Hid (wib (outM dir (mom dir rs[q].c (hq[q]'(by omega)) u)) most = true → psR dir most (rs.map SR.c) (hq.set q (mom dir rs[q].c (hq[q]'(by omega)) u :: (hq[q]'(by omega)))) (q + 1) (outM dir (mom dir rs[q].c (hq[q]'(by omega)) u)) = P) := Lib.hid (fun e => by
            have h := psR_go (d := dir) (most := most) (cs := rs.map SR.c) (hs := hq) (j := q) (v := u) HLN.out (by rw [List.length_map]; exact hqr) (by rw [List.getElem_map]; exact e)
            rw [List.getElem_map] at h
            rw [h]; exact HP.out)
          have HOV : Hid (wib (outM dir (mom dir rs[q].c (hq[q]'(by omega)) u)) most = false → P.2 = none) := Lib.hid (fun e => by
            rw [← HP.out]
            exact psR_over (d := dir) (most := most) (cs := rs.map SR.c) (hs := hq) (j := q) (v := u) HLN.out (by rw [List.length_map]; exact hqr) (by rw [List.getElem_map]; exact e))
          have HST : Hid (∀ w' h', wr.grownBy w' (some rs[q].g) → St w' rs[q].g h' (h'.length % 8) (.slice rs[q].Af rs[q].nf rs[q].kf) (.slice rs[q].Ab rs[q].nb rs[q].kb) rs[q].c.share → Small h' → Lives w' B dir rs (hq.set q h')) := Lib.hid (fun w' h' h1 h2 h3 => HLW.out.step hqr h1 h2 h3)
          obtain ⟨s, hs1⟩ : ∃ s, rs[q] = s := ⟨_, rfl⟩
          obtain ⟨h, hs2⟩ : ∃ h, hq[q]'(by omega) = h := ⟨_, rfl⟩
          rw [hs1, hs2] at HGO HOV HLV
          rw [hs1] at HST hcell
          clear hs1 hs2 hlen
          have hcell' : wr.cell? ⟨g, q, none⟩ = some (.func (.func (stepFn dir)) #[] #[.pointer (some ⟨s.d, 0, none⟩), .pointer (some ⟨s.g, 0, none⟩)]) := hcell
          clear hcell
          have hub := wib_bd HWU.out
          have hent := step_enters dir
          obtain ⟨o, ho⟩ : ∃ o, outM dir (mom dir s.c h u) = o := ⟨_, rfl⟩
          have HOO := Lib.hid ho
          clear ho
          rw [HOO.out] at HGO HOV
          cases hwo : wib o most
          all_goals
            have HWO := Lib.hid hwo
            clear hwo
            go_wp2_with (first | ((with_reducible refine (step_any dir B s h u _ HLV.out (by omega)).mono ?_); rintro e w2 ⟨rfl, hst2, hg2⟩; rw [HOO.out]) | ((with_reducible refine (fwithin_any _ _ _ hm0 hm).mono ?_); rintro e w3 ⟨rfl, rfl⟩; rw [HWO.out]))
          · have hr0 : R = none := HPN.out (HOV.out HWO.out)
            subst hr0
            go_ret2
            exact ⟨⟨_, rfl, World.ownsRow_nil _ _ _ _, HBW.out.trans (grown_below hg2 HLV.out.BS (fun k hk => by injection hk with hk; have := HLV.out.gB; omega))⟩, HKO.out.trans (keeps_grown hg2 (fun r e => by cases e; exact ⟨_, HLV.out.st, rfl⟩))⟩
          · go_roundw
            case rel =>
              exact ⟨q + 1, o, _, by omega, by go_num, rfl, HWO, Lib.hid (own_step HOY.out HLV.out.st (by decide) hg2), Lib.hid (own_step HOS.out HLV.out.st (by decide) hg2), Lib.hid (HST.out _ _ hg2 hst2 (mom_small HLV.out.sm HWU.out (by rw [HOO.out]; exact HWO.out) hm)), Lib.hid (HBW.out.trans (grown_below hg2 HLV.out.BS (fun k hk => by injection hk with hk; have := HLV.out.gB; omega))), Nat.le_trans hsz hg2.size, Lib.hid (HKO.out.trans (keeps_grown hg2 (fun r e => by cases e; exact ⟨_, HLV.out.st, rfl⟩))), Lib.hid (HGO.out HWO.out)⟩
            case measure => simp [intOf]; omega
        · have hlen := HLW.out.len
          have hpe : P = (hq, some u) := by rw [← HP.out]; exact psR_end (by rw [List.length_map]; exact hlen) (by rw [List.length_map]; have := HN.out; omega)
          have HTR : Hid (thR dir most (rs.map SR.c) hq xs (j + 1) (ys ++ [u]) = R) := Lib.hid (HPV.out hq u hpe)
          clear hpe hlen HPV HPN HP
          go_wp2_with (at_builtin; refine wpList_append_own _ rfl (.tmp 36) (.tmp 38) _ rfl w.heap.size 2 i0 _ 1 8 Try.underlying22 HI0.out HZ0.out HZ1.out HZ2.out rfl (by omega) _ j (nums ys) rfl (HOY.out.alloc _) ⟨wr.heap.size, 0, none⟩ 1 1 [.int .i64 u] rfl rfl (nine_new _ _ _) ?c1 ?c2 ?c3 ?c4 ?_)
          case c1 => intro x hx; simp at hx; subst hx; rfl
          case c2 => simp only [maxLen]; omega
          case c3 => omega
          case c4 => first | omega | (simp; omega)
          intro v' w4 hown' hgrow _
          have hb1 : Below wr.heap.size wr (wr.alloc (.cells #[.int .i64 u] 2)) := (Below.refl _ _).alloc (Nat.le_refl _) _
          have HLN : Hid (Lives w4 B dir rs hq) := Lib.hid ((HLW.out.below hb1).grown (HOY.out.alloc _) hB (by decide) (by cases dir <;> decide) hgrow)
          have HSN : Hid (w4.ownsRow sb 65 1 (.slice A n k) n (rs.map (SR.val dir))) := Lib.hid (own_other (own_below HOS.out hb1) (HOY.out.alloc _) (by decide) hgrow)
          have HBN : Hid (Below B w w4) := Lib.hid ((HBW.out.trans (hb1.mono (by omega))).trans (grown_below hgrow (by simp; omega) (fun j hj => by have := (HOY.out.lt j hj).1; omega)))
          have HKN : Hid (KeepsOthers w w4) := Lib.hid ((HKO.out.trans (keeps_below hb1)).trans (keeps_grown hgrow (own_cellsR (HOY.out.alloc _))))
          have hs4 : w.heap.size ≤ w4.heap.size := by have h1 := hgrow.size; have h2 := hb1.size; omega
          have HON : Hid (w4.ownsRow w.heap.size 2 1 v' (j + 1) (nums (ys ++ [u]))) := Lib.hid (by simpa [nums] using hown')
          clear hown' hgrow hb1 HLW HOY HOS HBW
          go_wp2
          go_roundw
          case rel => exact ⟨j + 1, ys ++ [u], hq, v', by omega, by go_num, rfl, Lib.hid (by simp [HYL.out]), HON, HSN, HLN, HBN, hs4, HKN, HTR⟩
          case measure => simp [intOf]; omega
    · obtain rfl : j = nx := by omega
      have hre : R = some ys := by rw [← HR.out]; exact thR_end HNX.out
      subst hre
      go_wp2
      go_ret2
      refine ⟨⟨_, rfl, ?_, HBW.out⟩, HKO.out⟩
      have h := own_base_ HOY.out hB
      simp only [Option.getD_some]
      rw [HYL.out]
      exact h
end Go.Proofs.Ytilihdkfflfniaa
