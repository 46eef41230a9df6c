/-
  A programme that keeps full gains is not changed by Limit.
-/
import Derived.Test.YtilihdkfflfniaaYC
import Derived.Test.YtilihdkfflfniaaQF
import Derived.Test.YtilihdkfflfniaaW2
import Derived.Deep.RegionLaw
import Derived.Deep.RegionHeld3
import Derived.Sort.AtCall
import Derived.BigQuiet
namespace Go.Proofs.Ytilihdkfflfniaa
open Go.RowKit

theorem vs_bdE {l r : Int} (h : vs l r = true) : (-32767 ≤ l ∧ l ≤ 32767) ∧ (-32767 ≤ r ∧ r ≤ 32767) := by
  unfold vs win at h; simp at h; omega
set_option maxHeartbeats 400000 in
theorem gained_full (x : Int) (w : World) (h1 : -32767 ≤ x) (h2 : x ≤ 32767) :
    Calls Try.prog 68 #[.int .i64 x, .int .i64 256] w fun e w' => e = .returned (.int .i64 x) ∧ w = w' := by
  have e0 : IntKind.i64.wrap (x * 256) = x * 256 := IntWalk.i64_in _ (by omega)
  have e1 : (x * 256).tdiv 256 = x := Int.mul_tdiv_cancel _ (by omega)
  have e2 : IntKind.i64.wrap x = x := IntWalk.i64_in _ (by omega)
  go_enter Try.func68, Try.ntmps68
  go_wp2
  go_ret
  exact ⟨ret_i (by first | rfl | simp [e0, e1, e2]), rfl⟩

/-- What a call leaves that returns the programme xs. -/
def SmpPost (w : World) (n : Nat) (xs : List Smp) (e : Ending) (w' : World) : Prop := ∃ A c, e = .returned (.tuple #[.slice A n c, .int .i64 0]) ∧ RS w' w'.heap.size A n xs ∧ Below w.heap.size w w'

set_option maxRecDepth 100000 in
set_option maxHeartbeats 4000000 in
theorem Limit_full (B : Nat) (A : Option Addr) (n c : Nat) (xs : List Smp) (ce st : Int) (w : World) (h0 : RS w B A n xs) (hB : B ≤ w.heap.size) (hn4 : n ≤ 4096) (hv : vss xs = true) (hck : ckLi xs ce st = 0) (hgl : (gnRes xs ce st).length = n) (hg : ∀ x ∈ gnRes xs ce st, x = 256) :
    Calls Try.prog 34 #[.slice A n c, .int .i64 ce, .int .i64 st] w (SmpPost w n xs) := by
  have HN := Lib.hid h0.1
  have H := Lib.hid (h0.more hB)
  have HV := Lib.hid hv
  obtain ⟨G, hG⟩ : ∃ G, gnRes xs ce st = G := ⟨_, rfl⟩
  have HC : Hid (gnRes xs ce st = G ∧ ckLi xs ce st = 0) := Lib.hid ⟨hG, hck⟩
  rw [hG] at hgl hg
  have HGL := Lib.hid hgl
  have HGE := Lib.hid hg
  clear h0 hB hv hck hgl hg hG
  obtain ⟨i0, hi0, hz0, hz1, hz2⟩ := info_parts info_smp
  have hmk := fun W => run_make_rowN (P := Try.prog) 36 57 i0 _ Try.underlying36 hi0 hz0 .i64 .i64 0 n (Nat.zero_le _) (by rw [hz2]; omega) (by omega) W
  have HI0 := Lib.hid hi0
  have HZ0 := Lib.hid hz0
  have HZ1 := Lib.hid hz1
  have HZ2 := Lib.hid hz2
  rw [hz1] at hmk
  simp only [Int.natCast_zero] at hmk
  clear hi0 hz0 hz1 hz2
  go_enter Try.func34, Try.ntmps34
  go_wp2_with fail
  have CALL := Gains_any w.heap.size A n c xs ce st w H.out (Nat.le_refl _) (by omega)
  rw [HC.out.1, HC.out.2] at CALL
  refine CALL.mono ?_
  rintro e w1 ⟨v, rfl, ho, hb⟩
  clear CALL
  have hs1 := hb.size
  obtain ⟨Ag, cg, rfl, hL⟩ := li_own ho
  rw [HGL.out] at hL ⊢
  replace H := Lib.hid (H.out.below hb (Nat.le_refl _))
  have HL := Lib.hid hL
  have HB0 := Lib.hid hb
  clear ho hL hb
  go_wp2_with fail
  have hown : (w1.alloc (.cells (madeCells #[.int .i64 0, .int .i64 0] (n * 2)) 57)).ownsRow w1.heap.size 57 2 (.slice (some ⟨w1.heap.size, 0, none⟩) 0 n) 0 [] :=
    World.ownsRow_made (base := w1.heap.size) (e := 57) (size := 2) w1 (madeCells #[.int .i64 0, .int .i64 0] (n * 2)) n (Nat.le_refl _) (by unfold maxLen; omega) (by rw [size_madeCells])
  obtain ⟨W, hW⟩ : ∃ W, w1.alloc (.cells (madeCells #[.int .i64 0, .int .i64 0] (n * 2)) 57) = W := ⟨_, rfl⟩
  have hbw : Below w1.heap.size w1 W := by rw [← hW]; exact (Below.refl _ _).alloc (Nat.le_refl _) _
  rw [hW] at hown ⊢
  have HOW := Lib.hid hown
  have HBW := Lib.hid hbw
  clear hown hmk hW hbw
  go_loopw [10, 28] (fun vp z wr => ∃ (j : Nat) (sp : Value), j ≤ n ∧ z = .int .i64 j ∧ sp = vp ∧ Hid (wr.ownsRow w1.heap.size 57 2 sp j (smpCells (xs.take j))) ∧ Hid (Below w1.heap.size w1 wr)) (fun _ z wr => n - (intOf z).toNat)
  case atStart => exact ⟨0, _, Nat.zero_le _, rfl, rfl, HOW, HBW⟩
  case round =>
    clear HOW HBW
    obtain ⟨j, sp, hj, rfl, rfl, HO, HB⟩ := hrel
    by_cases hlt : j < n
    · have hjx : j < xs.length := by have := HN.out; omega
      have hjg : j < G.length := by have := HGL.out; omega
      obtain ⟨ad, hA, -, y1, y2⟩ := (H.out.below HB.out hs1).at_ (k := j) hjx
      obtain ⟨ag, hAg, hbg, y3⟩ := (HL.out.below HB.out (Nat.le_refl _)).at_ (k := j) hjg
      obtain rfl := hA
      obtain rfl := hAg
      rw [HGE.out _ (List.getElem_mem hjg)] at y3
      obtain ⟨Ap, cp, rfl, -⟩ := own_reads HO.out
      have b := vs_bdE (vss_at HV.out hjx)
      have HSN : Hid (smpCells (xs.take (j + 1)) = smpCells (xs.take j) ++ [.int .i64 xs[j].1, .int .i64 xs[j].2]) := Lib.hid (by rw [List.take_succ_eq_append_getElem hjx, smpCells_snoc])
      obtain ⟨x, hx⟩ : ∃ x, xs[j] = x := ⟨_, rfl⟩
      rw [hx] at y1 y2 b HSN
      obtain ⟨l, r⟩ := x
      dsimp only at y1 y2 b HSN
      have C1 := Lib.hid (fun W => gained_full l W b.1.1 b.1.2)
      have C2 := Lib.hid (fun W => gained_full r W b.2.1 b.2.2)
      clear hx b
      have hs0 := HB.out.size
      go_upto_region 8 with fail
      have N0 : Hid (some wr.heap.size ≠ (Value.slice Ap j cp).ownBlock) := Lib.hid (fun e => by have := (HO.out.lt _ e.symm).2; omega)
      have N1 : Hid (some (ag.add j).block ≠ (Value.slice Ap j cp).ownBlock) := Lib.hid (fun e => by have := (HO.out.lt _ e.symm).1; rw [block_of_add] at this; omega)
      obtain ⟨W, hW⟩ : ∃ W, wr.alloc (.cells #[.int .i64 l, .int .i64 r] 57) = W := ⟨_, rfl⟩
      have hbw : Below wr.heap.size wr W := by rw [← hW]; exact (Below.refl _ _).alloc (Nat.le_refl _) _
      have HOD : Hid (W.drew.ownsRow w1.heap.size 57 2 (.slice Ap j cp) j (smpCells (xs.take j))) := Lib.hid (own_below HO.out hbw).drew
      have HOW : Hid (W.ownsRow w1.heap.size 57 2 (.slice Ap j cp) j (smpCells (xs.take j))) := Lib.hid (own_below HO.out hbw)
      have HBW : Hid (Below w1.heap.size w1 W) := Lib.hid (HB.out.trans (hbw.mono HB.out.size))
      have HBD : Hid (Below w1.heap.size w1 W.drew) := Lib.hid ((HB.out.trans (hbw.mono HB.out.size)).drew)
      have HP : Hid (Blk W wr.heap.size 57 #[.int .i64 l, .int .i64 r]) := Lib.hid (by rw [← hW]; exact Blk.new _ _ _)
      have hs2 : w1.heap.size ≤ W.heap.size := HBD.out.size
      have y5 : W.drew.cell? (ag.add j) = some (.int .i64 256) := by
        obtain ⟨ag', hAg', -, y⟩ := (HL.out.below HBD.out (Nat.le_refl _)).at_ (k := j) hjg
        cases hAg'
        rw [HGE.out _ (List.getElem_mem hjg)] at y
        exact y
      first | rw [hW] | (change Code.wp _ _ _ _ (wr.alloc (.cells #[.int .i64 l, .int .i64 r] 57)); rw [hW])
      clear hW hbw
      obtain ⟨gp, hgp⟩ : ∃ g, wr.heap.size = g := ⟨_, rfl⟩
      rw [hgp] at HP N0
      try rw [hgp]
      clear hgp y1 y2 y3
      have p0 : W.drew.cell? ⟨gp, 0, none⟩ = some (.int .i64 l) := (HP.out.cell 0).trans rfl
      have p1 : W.drew.cell? ⟨gp, 1, none⟩ = some (.int .i64 r) := (HP.out.cell 1).trans rfl
      have HOA : Hid ((W.alloc (.cells #[.int .i64 l, .int .i64 r] 57)).drew.ownsRow w1.heap.size 57 2 (.slice Ap j cp) j (smpCells (xs.take j))) := Lib.hid (HOW.out.alloc _).drew
      have HBA : Hid (Below w1.heap.size w1 (W.alloc (.cells #[.int .i64 l, .int .i64 r] 57)).drew) := Lib.hid ((HBW.out.alloc hs2 _).drew)
      have HAL : Hid (gp < W.heap.size ∧ (ag.add j).block < W.heap.size) := Lib.hid ⟨HP.out.lt, block_lt_of_cell y5⟩
      have Z0 : Hid ((W.alloc (.cells #[.int .i64 l, .int .i64 r] 57)).drew.cell? ⟨gp, 0, none⟩ = some (.int .i64 l)) := Lib.hid ((World.cell?_alloc_lt W.drew _ _ HAL.out.1).trans p0)
      have Z1 : Hid ((W.alloc (.cells #[.int .i64 l, .int .i64 r] 57)).drew.cell? ⟨gp, 1, none⟩ = some (.int .i64 r)) := Lib.hid ((World.cell?_alloc_lt W.drew _ _ HAL.out.1).trans p1)
      have Z2 : Hid ((W.alloc (.cells #[.int .i64 l, .int .i64 r] 57)).drew.cell? (ag.add j) = some (.int .i64 256)) := Lib.hid ((World.cell?_alloc_lt W.drew _ _ HAL.out.2).trans y5)
      go_region_held3 (fun w' => w'.cell? ⟨gp, 0, none⟩ = some (.int .i64 l) ∧ w'.cell? ⟨gp, 1, none⟩ = some (.int .i64 r) ∧ w'.cell? (ag.add j) = some (.int .i64 256)) (first | exact ⟨Z0.out, Z1.out, Z2.out⟩ | go_keep)
        (first | (refine step_append_any _ rfl (.tmp 33) (.tmp 49) _ rfl w1.heap.size 57 i0 _ 2 16 Try.underlying36 HI0.out HZ0.out HZ1.out HZ2.out rfl (by omega) (.slice Ap j cp) j (smpCells (xs.take j)) rfl HOA.out (W.heap.size + 1) (some ⟨W.heap.size, 0, none⟩) 1 1 [.int .i64 l, .int .i64 r] rfl (reads_cells (B := W.heap.size + 1) (blk_dr rfl) (Nat.lt_succ_self _) rfl rfl) (by intro x hx; simp at hx; rcases hx with rfl | rfl <;> rfl) (by simp only [maxLen]; omega) (by omega) (by first | omega | (simp; omega)) ?_; intro vp w3 hop hgp hbp; have HO3 : Hid (w3.ownsRow w1.heap.size 57 2 vp (j + 1) (smpCells (xs.take (j + 1)))) := Lib.hid (by rw [HSN.out]; exact hop); have HB3 : Hid (Below w1.heap.size w1 w3) := Lib.hid (HBA.out.grown hgp HBA.out.size fun k hk => (HOD.out.lt k hk).1); have q0 := hgp.cell Z0.out N0.out; have q1 := hgp.cell Z1.out N0.out; have q2 := hgp.cell Z2.out N1.out) | (go_at_call 68; refine (C1.out _).mono ?_; rintro e w_ ⟨rfl, rfl⟩) | (go_at_call 68; refine (C2.out _).mono ?_; rintro e w_ ⟨rfl, rfl⟩))
      all_goals
        clear hop hgp hbp
        go_wp2
        go_roundw
        case rel => exact ⟨j + 1, _, by omega, by go_num, rfl, HO3, HB3⟩
        case measure => simp [intOf]; omega
    · obtain rfl : j = n := by omega
      have ho := HO.out
      rw [List.take_of_length_le (by have := HN.out; omega)] at ho
      obtain ⟨Ap, cp, rfl, hrd⟩ := own_reads ho
      have HR := Lib.hid hrd
      clear ho hrd
      go_wp2
      go_ret2
      exact ⟨_, _, rfl, ⟨HN.out, HR.out⟩, HB0.out.trans (HB.out.mono HB0.out.size)⟩
end Go.Proofs.Ytilihdkfflfniaa
