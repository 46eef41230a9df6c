/-
  Contracts of place and length.
-/
import Derived.Test.YtbcahkklhdnboaaB4
import Derived.Test.YtbcahkklhdnboaaA9
namespace Go.Proofs.Ytbcahkklhdnboaa
open Go.RowKit

set_option maxRecDepth 100000 in
set_option maxHeartbeats 2000000 in
theorem place_any (B : Nat) (A : Option Addr) (n c : Nat) (ps : List Prt) (w : World) (h0 : RP w B A n ps) (hB : B ≤ w.heap.size) (h32 : ps.length ≤ 32) (hp : ∀ p ∈ ps, PrOk p) :
    Calls Try.prog 35 #[.slice A n c] w (PlPost w (placeL ps 0 0)) := by
  have H := Lib.hid (h0.more hB)
  obtain ⟨hn, -⟩ := h0
  have HN := Lib.hid hn
  have hn32 : n ≤ 32 := by omega
  have HP := Lib.hid hp
  clear hn hB h32 hp
  obtain ⟨R, hR⟩ : ∃ R, placeL ps 0 0 = R := ⟨_, rfl⟩
  have hRl : R.length = n := by rw [← hR, placeL_length]; exact HN.out.symm
  have HRL := Lib.hid hRl
  rw [hR]
  have HR := Lib.hid hR
  clear hR hRl
  obtain ⟨i0, hi0, hz0, hz1, hz2⟩ := info_parts info_placed
  have hmk := fun W => run_make_rowN (P := Try.prog) 68 71 i0 _ Try.underlying68 hi0 hz0 .i64 .i64 0 n (Nat.zero_le _) (by rw [hz2]; omega) (by omega) W
  rw [hz1] at hmk
  simp only [Int.natCast_zero] at hmk
  have HI0 := Lib.hid hi0
  have HZ0 := Lib.hid hz0
  have HZ1 := Lib.hid hz1
  have HZ2 := Lib.hid hz2
  clear hi0 hz0 hz1 hz2
  go_enter Try.func35, Try.ntmps35
  go_wp2
  clear hmk
  go_loopw [3, 4, 13] (fun v e i wr => ∃ (k : Nat) (out : List Pl) (en : Int), k ≤ n ∧ i = .int .i64 k ∧ e = .int .i64 en ∧ out.length = k ∧ -8192 * (k : Int) ≤ en ∧ en ≤ 8192 * (k : Int) ∧
      wr.ownsRow w.heap.size 71 9 v out.length (plCells out) ∧ Below w.heap.size w wr ∧ out ++ placeL (ps.drop k) k en = R) (fun _ _ i wr => n - (intOf i).toNat)
  case atStart =>
    exact ⟨0, [], 0, Nat.zero_le _, rfl, rfl, rfl, by omega, by omega, World.ownsRow_made _ _ _ (Nat.le_refl _) (by unfold maxLen; omega) (by rw [size_madeCells]), (Below.refl _ _).alloc (Nat.le_refl _) _, HR.out⟩
  case round =>
    clear HR
    obtain ⟨k, out, en, hk, rfl, rfl, hout, he1, he2, hown, hb, hR⟩ := hrel
    have HO := Lib.hid hown
    have HR := Lib.hid hR
    have HOUT := Lib.hid hout
    clear hown hR hout
    by_cases hlt : k < n
    · obtain ⟨ad, hA, hbl, p0, p1, p2, p3, p4, p5, p6⟩ := (H.out.below hb (Nat.le_refl _)).at_ (k := k) (by have := HN.out; omega)
      obtain rfl := hA
      have hok := HP.out _ (List.getElem_mem (show k < ps.length by have := HN.out; omega))
      have hd : ps.drop k = ps[k]'(by have := HN.out; omega) :: ps.drop (k + 1) := List.drop_eq_getElem_cons (by have := HN.out; omega)
      obtain ⟨p, hpp⟩ : ∃ p, p = ps[k]'(by have := HN.out; omega) := ⟨_, rfl⟩
      rw [← hpp] at p0 p1 p2 p3 p4 p5 p6 hok hd
      have HD := Lib.hid hd
      clear hpp hd
      have HOK := Lib.hid hok
      obtain ⟨o1, o2, o3, o4, o5⟩ := hok
      have he3 : -262144 ≤ en ∧ en ≤ 262144 := by omega
      obtain ⟨e3, e4⟩ := he3
      have zz := hb.size
      go_wp2_with fail
      refine (pend_any ⟨p, k, en + p.gp⟩ _ ⟨HOK.out, by simp; omega, by simp; omega⟩).mono ?_
      rintro e w1 ⟨rfl, hb1⟩
      have hpe : (Pl.mk p k (en + p.gp)).end_ = en + p.gp + (p.to - p.fr) := rfl
      rw [hpe]
      clear hpe
      have HB1 := Lib.hid hb1
      have hbw : Below w.heap.size w w1 := ((hb.alloc hb.size _).alloc (by simp; omega) _).trans (hb1.mono (by simp; omega))
      have hblk := (Blk.new (wr.alloc (.cells #[.int .i64 p.tk, .int .i64 p.fr, .int .i64 p.to, .int .i64 p.gp, .int .i64 p.fi, .int .i64 p.fo, .int .i64 p.lv] 53)) 71 #[.int .i64 p.tk, .int .i64 p.fr, .int .i64 p.to, .int .i64 p.gp, .int .i64 p.fi, .int .i64 p.fo, .int .i64 p.lv, .int .i64 k, .int .i64 (en + p.gp)]).below hb1 (by simp)
      simp only [World.size_alloc] at hblk
      have g0 := (hblk.cell 0).trans rfl
      have g1 := (hblk.cell 1).trans rfl
      have g2 := (hblk.cell 2).trans rfl
      have g3 := (hblk.cell 3).trans rfl
      have g4 := (hblk.cell 4).trans rfl
      have g5 := (hblk.cell 5).trans rfl
      have g6 := (hblk.cell 6).trans rfl
      have g7 := (hblk.cell 7).trans rfl
      have g8 := (hblk.cell 8).trans rfl
      clear hblk hb1
      have HO1 := Lib.hid (own_below ((HO.out.alloc _).alloc _) HB1.out)
      have zz1 := hbw.size
      have hlen : out.length ≤ 32 := by have := HOUT.out; omega
      go_wp2_with (at_builtin; refine wpList_append_own _ rfl (.tmp 27) (.tmp 29) _ rfl w.heap.size 71 i0 _ 9 72 Try.underlying68 HI0.out HZ0.out HZ1.out HZ2.out rfl (by omega) _ out.length (plCells out) rfl (HO1.out.alloc _) ⟨w1.heap.size, 0, none⟩ 1 1 [.int .i64 p.tk, .int .i64 p.fr, .int .i64 p.to, .int .i64 p.gp, .int .i64 p.fi, .int .i64 p.fo, .int .i64 p.lv, .int .i64 k, .int .i64 (en + p.gp)] rfl rfl (nine_new _ _ _) ?c1 ?c2 ?c3 ?c4 ?_)
      case c1 => first | exact ⟨rfl, rfl, rfl, rfl, rfl, rfl, rfl, rfl, rfl⟩ | (intro u hu; simp at hu; rcases hu with rfl | rfl | rfl | rfl | rfl | rfl | rfl | rfl | rfl <;> rfl)
      case c2 => simp only [maxLen]; omega
      case c3 => omega
      case c4 => first | omega | (simp; omega)
      intro v' w4 hown' hgrow _
      have HO' := Lib.hid hown'
      have HG := Lib.hid hgrow
      clear hown' hgrow
      go_wp2
      go_roundw
      case rel =>
        refine ⟨k + 1, out ++ [⟨p, k, en + p.gp⟩], en + p.gp + (p.to - p.fr), by omega, by go_num, rfl, by simp [HOUT.out], by omega, by omega, ?_, ?_, ?_⟩
        · rw [plCells_snoc]; simpa [plc] using HO'.out
        · exact (hbw.alloc hbw.size _).grown HG.out (by simp; omega) fun j hj => (HO1.out.lt j hj).1
        · rw [← HR.out, HD.out]; simp [placeL]
      case measure => simp [intOf]; omega
    · go_wp2
      go_ret
      have hfin : out = R := by rw [← HR.out, List.drop_eq_nil_of_le (by have := HN.out; omega)]; simp [placeL]
      subst hfin
      obtain ⟨A', c', rfl, hre⟩ := own_reads HO.out
      exact ⟨A', c', rfl, ⟨rfl, hre⟩, hb⟩
end Go.Proofs.Ytbcahkklhdnboaa
