/-
  Contract of Silences.
-/
import Derived.Test.YtjaomjbhkgijbaaMg1
import Derived.Test.YtjaomjbhkgijbaaMg3
import Derived.Maps.AppendAt

namespace Go.Proofs.Ytjaomjbhkgijbaa
open Go.RowKit

/-- The silences of what is left, i being the next index and from the first one of the series at hand. -/
def tk (least : Int) : List Bool → Nat → Nat → List (Nat × Nat)
  | [], i, f => if least ≤ (i : Int) - f then [(f, i)] else []
  | b :: bs, i, f => if b = true then tk least bs (i + 1) f else (if least ≤ (i : Int) - f then [(f, i)] else []) ++ tk least bs (i + 1) (i + 1)
def qf (limit : Int) (xs : List Smp) : List Bool := xs.map fun s => decide (am s.1 ≤ limit) && decide (am s.2 ≤ limit)
theorem qf_drop (limit : Int) (xs : List Smp) (k : Nat) (h : k < xs.length) : (qf limit xs).drop k = (decide (am xs[k].1 ≤ limit) && decide (am xs[k].2 ≤ limit)) :: (qf limit xs).drop (k + 1) := by
  unfold qf
  rw [List.drop_eq_getElem_cons (by simpa using h)]
  simp
theorem qf_drop_all (limit : Int) (xs : List Smp) (k : Nat) (h : xs.length ≤ k) : (qf limit xs).drop k = [] := by
  unfold qf
  rw [List.drop_eq_nil_iff]; simpa using h
def rowCells (R : List (Nat × Nat)) : List Value := R.flatMap fun p => [.int .i64 p.1, .int .i64 p.2]
theorem rowCells_snoc (R : List (Nat × Nat)) (a b : Nat) : rowCells (R ++ [(a, b)]) = rowCells R ++ [.int .i64 a, .int .i64 b] := by
  simp [rowCells]
def slEr (limit least : Int) (xs : List Smp) : Int := if ckS xs = 0 then (if 0 ≤ limit ∧ limit ≤ 32767 ∧ 1 ≤ least ∧ least ≤ 4096 then 0 else 3) else ckS xs
def slRes (limit least : Int) (xs : List Smp) : List (Nat × Nat) := if slEr limit least xs = 0 then tk least (qf limit xs) 0 0 else []
def SilPost (w : World) (er : Int) (R : List (Nat × Nat)) (e : Ending) (w' : World) : Prop :=
  ∃ v, e = .returned (.tuple #[v, .int .i64 er]) ∧ w'.ownsRow w.heap.size 101 2 v R.length (rowCells R) ∧ Below w.heap.size w w'
theorem info_pair : (Try.prog.info? 101).map (fun i => (i.zero, i.size, i.bytes)) = some (some (.agg #[.int .i64 0, .int .i64 0]), 2, 16) := by kernel_rfl
set_option maxRecDepth 100000 in
set_option maxHeartbeats 1000000 in
theorem Silences_ok (B : Nat) (A : Option Addr) (n c : Nat) (xs : List Smp) (limit least : Int) (w : World) (h0 : RS w B A n xs) (hB : B ≤ w.heap.size) (hl : n ≤ 9223372036854775807)
    (hc : ckS xs = 0) (g1 : 0 ≤ limit) (g2 : limit ≤ 32767) (g3 : 1 ≤ least) (g4 : least ≤ 4096) :
    Calls Try.prog 77 #[.slice A n c, .int .i64 limit, .int .i64 least] w (SilPost w 0 (tk least (qf limit xs) 0 0)) := by
  have H := Lib.hid (h0.more hB)
  obtain ⟨hn, -⟩ := h0
  clear hB
  have h4 : n ≤ 4096 := by
    rw [hn]; unfold ckS at hc
    split at hc
    · omega
    · omega
  have HN := Lib.hid hn
  have HB : Hid (∀ (k : Nat) (hk : k < xs.length), -32767 ≤ xs[k].1 ∧ xs[k].1 ≤ 32767 ∧ -32767 ≤ xs[k].2 ∧ xs[k].2 ≤ 32767) := Lib.hid (ckS_bd xs hc)
  have HC := Lib.hid hc
  have hw1 : win limit 0 32767 = true := by simp [win, g1, g2]
  have hw2 : win least 1 4096 = true := by simp [win, g3, g4]
  have HW1 := Lib.hid hw1
  have HW2 := Lib.hid hw2
  clear hn hc hw1 hw2
  obtain ⟨R, hR⟩ : ∃ R, tk least (qf limit xs) 0 0 = R := ⟨_, rfl⟩
  rw [hR]
  have HR := Lib.hid hR
  clear hR
  obtain ⟨i0, hi0, hz0, hz1, hz2⟩ := info_parts info_pair
  have HI0 := Lib.hid hi0
  have HZ0 := Lib.hid hz0
  have HZ1 := Lib.hid hz1
  have HZ2 := Lib.hid hz2
  clear hi0 hz0 hz1 hz2
  go_enter Try.func77, Try.ntmps77
  go_wp2_with fail
  refine (CheckSamples_any _ A n c xs _ H.out (Nat.le_refl _) hl).mono ?_
  rintro e w1 ⟨rfl, hb1⟩
  rw [HC.out]
  go_wp2_with fail
  refine (within64_any _ _ _ _).mono ?_
  rintro e w2 ⟨rfl, rfl⟩
  rw [HW1.out]
  go_wp2_with fail
  refine (within_any _ _ _ _).mono ?_
  rintro e w3 ⟨rfl, rfl⟩
  rw [HW2.out]
  go_wp2_with fail
  go_loopw [9, 10, 28] (fun v f i wr => ∃ (k fr : Nat) (out : List (Nat × Nat)), i = .int .i64 k ∧ f = .int .i64 fr ∧ fr ≤ k ∧ out.length ≤ k ∧ wr.ownsRow w.heap.size 101 2 v out.length (rowCells out) ∧ Below w.heap.size w wr ∧
      ((k ≤ n ∧ out ++ tk least ((qf limit xs).drop k) k fr = R) ∨ (k = n + 1 ∧ out = R))) (fun _ _ i wr => n + 1 - (intOf i).toNat)
  case atStart => exact ⟨0, 0, [], rfl, rfl, Nat.le_refl _, Nat.le_refl _, World.ownsRow_nil _ _ _ _, hb1, .inl ⟨Nat.zero_le _, HR.out⟩⟩
  case round =>
    clear hb1
    obtain ⟨k, fr, out, rfl, rfl, hfk, hout, hown, hb, hcase⟩ := hrel
    have HO := Lib.hid hown
    clear hown
    rcases hcase with ⟨hk, hR⟩ | ⟨hk, hR⟩
    · have HR1 := Lib.hid hR
      clear hR
      by_cases hlt : k < n
      · obtain ⟨ad, hA, hbl, h1, h2⟩ := (H.out.below hb (Nat.le_refl _)).at_ (k := k) (by have := HN.out; omega)
        obtain rfl := hA
        obtain ⟨b1, b2, b3, b4⟩ := HB.out k (by have := HN.out; omega)
        have hd := qf_drop limit xs k (by have := HN.out; omega)
        have HD := Lib.hid hd
        clear hd
        cases hq : (decide (am xs[k].1 ≤ limit) && decide (am xs[k].2 ≤ limit))
        · have HQ := Lib.hid hq
          clear hq
          by_cases hlen : least ≤ (k : Int) - fr
          · go_wp2_with fail
            refine (quiet_any _ _ _ _ b1 b2 b3 b4).mono ?_
            rintro e w2 ⟨rfl, hb2⟩
            rw [HQ.out]
            have hbw : Below w.heap.size w w2 := hb.trans (hb2.mono hb.size)
            have zz := hbw.size
            go_wp2_with (at_builtin; refine wpList_append_own _ rfl (.tmp 48) (.tmp 52) _ rfl w.heap.size 101 i0 (.agg #[.int .i64 0, .int .i64 0]) 2 16 Try.underlying98 HI0.out HZ0.out HZ1.out HZ2.out rfl (by omega) _ out.length (rowCells out) rfl ((own_below HO.out hb2).alloc _) ⟨w2.heap.size, 0, none⟩ 1 1 [.int .i64 fr, .int .i64 k] rfl rfl (two_new _ _ _ _) ?c1 ?c2 ?c3 ?c4 ?_)
            case c1 => intro u hu; simp at hu; rcases hu with rfl | rfl <;> rfl
            case c2 => simp only [maxLen]; omega
            case c3 => omega
            case c4 => simp; omega
            intro v' w4 hown' hgrow _
            have HO' := Lib.hid hown'
            have HG := Lib.hid hgrow
            clear hown' hgrow
            go_wp2
            go_roundw
            case rel =>
              refine ⟨k + 1, k + 1, out ++ [(fr, k)], by go_num, by go_num, Nat.le_refl _, by simp; omega, ?_, ?_, .inl ⟨by omega, ?_⟩⟩
              · rw [rowCells_snoc]; simpa using HO'.out
              · exact (hbw.alloc hbw.size _).grown HG.out (by simp; omega) fun j hj => (HO.out.lt j hj).1
              · rw [← HR1.out, HD.out, HQ.out]
                simp [tk, hlen]
            case measure => simp [intOf]; omega
          · go_wp2_with fail
            refine (quiet_any _ _ _ _ b1 b2 b3 b4).mono ?_
            rintro e w2 ⟨rfl, hb2⟩
            rw [HQ.out]
            have hbw : Below w.heap.size w w2 := hb.trans (hb2.mono hb.size)
            go_wp2
            go_roundw
            case rel =>
              refine ⟨k + 1, k + 1, out, by go_num, by go_num, Nat.le_refl _, by omega, own_below HO.out hb2, hbw, .inl ⟨by omega, ?_⟩⟩
              rw [← HR1.out, HD.out, HQ.out]
              simp [tk, hlen]
            case measure => simp [intOf]; omega
        · have HQ := Lib.hid hq
          clear hq
          go_wp2_with fail
          refine (quiet_any _ _ _ _ b1 b2 b3 b4).mono ?_
          rintro e w2 ⟨rfl, hb2⟩
          rw [HQ.out]
          have hbw : Below w.heap.size w w2 := hb.trans (hb2.mono hb.size)
          go_wp2
          go_roundw
          case rel =>
            refine ⟨k + 1, fr, out, by go_num, rfl, by omega, by omega, own_below HO.out hb2, hbw, .inl ⟨by omega, ?_⟩⟩
            rw [← HR1.out, HD.out, HQ.out]
            simp [tk]
          case measure => simp [intOf]; omega
      · have hkn : k = n := by omega
        have hd := qf_drop_all limit xs k (by have := HN.out; omega)
        have HD := Lib.hid hd
        clear hd
        have HK := Lib.hid hkn
        clear hkn
        have hnl : ¬ (k : Int) < (n : Int) := by omega
        have zz := hb.size
        by_cases hlen : least ≤ (k : Int) - fr
        · go_wp2_with (at_builtin; refine wpList_append_own _ rfl (.tmp 48) (.tmp 52) _ rfl w.heap.size 101 i0 (.agg #[.int .i64 0, .int .i64 0]) 2 16 Try.underlying98 HI0.out HZ0.out HZ1.out HZ2.out rfl (by omega) _ out.length (rowCells out) rfl (HO.out.alloc _) ⟨wr.heap.size, 0, none⟩ 1 1 [.int .i64 fr, .int .i64 k] rfl rfl (two_new _ _ _ _) ?c1 ?c2 ?c3 ?c4 ?_)
          case c1 => first | exact ⟨rfl, rfl⟩ | (intro u hu; simp at hu; rcases hu with rfl | rfl <;> rfl)
          case c2 => simp only [maxLen]; omega
          case c3 => omega
          case c4 => first | omega | (simp; omega)
          intro v' w4 hown' hgrow _
          have HO' := Lib.hid hown'
          have HG := Lib.hid hgrow
          clear hown' hgrow
          go_wp2
          go_roundw
          case rel =>
            refine ⟨k + 1, k + 1, out ++ [(fr, k)], by go_num, by go_num, Nat.le_refl _, by simp; omega, ?_, ?_, .inr ⟨by have := HK.out; omega, ?_⟩⟩
            · rw [rowCells_snoc]; simpa using HO'.out
            · exact (hb.alloc hb.size _).grown HG.out (by simp; omega) fun j hj => (HO.out.lt j hj).1
            · rw [← HR1.out, HD.out]
              simp [tk, hlen]
          case measure => simp [intOf]; omega
        · go_wp2
          go_roundw
          case rel =>
            refine ⟨k + 1, k + 1, out, by go_num, by go_num, Nat.le_refl _, by omega, HO.out, hb, .inr ⟨by have := HK.out; omega, ?_⟩⟩
            rw [← HR1.out, HD.out]
            simp [tk, hlen]
          case measure => simp [intOf]; omega
    · have HR1 := Lib.hid hR
      have hnl : ¬ (k : Int) < (n : Int) + 1 := by omega
      clear hR hk
      go_wp2
      go_ret2
      exact ⟨_, rfl, by rw [← HR1.out]; exact HO.out, hb⟩

set_option maxHeartbeats 1000000 in
theorem Silences_any (B : Nat) (A : Option Addr) (n c : Nat) (xs : List Smp) (limit least : Int) (w : World) (h0 : RS w B A n xs) (hB : B ≤ w.heap.size) (hl : n ≤ 9223372036854775807) :
    Calls Try.prog 77 #[.slice A n c, .int .i64 limit, .int .i64 least] w (SilPost w (slEr limit least xs) (slRes limit least xs)) := by
  by_cases hc : ckS xs = 0
  · by_cases hg : 0 ≤ limit ∧ limit ≤ 32767 ∧ 1 ≤ least ∧ least ≤ 4096
    · have he : slEr limit least xs = 0 := by unfold slEr; rw [if_pos hc, if_pos hg]
      have hr : slRes limit least xs = tk least (qf limit xs) 0 0 := by unfold slRes; rw [if_pos he]
      rw [he, hr]
      exact Silences_ok B A n c xs limit least w h0 hB hl hc hg.1 hg.2.1 hg.2.2.1 hg.2.2.2
    · have he : slEr limit least xs = 3 := by unfold slEr; rw [if_pos hc, if_neg hg]
      have hr : slRes limit least xs = [] := by unfold slRes; rw [if_neg (by omega)]
      rw [he, hr]
      have H := Lib.hid (h0.more hB)
      have HC := Lib.hid hc
      clear h0 hB hc he hr
      cases hw1 : win limit 0 32767
      · have HW1 := Lib.hid hw1
        clear hw1 hg
        go_enter Try.func77, Try.ntmps77
        go_wp2_with fail
        refine (CheckSamples_any _ A n c xs _ H.out (Nat.le_refl _) hl).mono ?_
        rintro e w1 ⟨rfl, hb1⟩
        rw [HC.out]
        go_wp2_with fail
        refine (within64_any _ _ _ _).mono ?_
        rintro e w2 ⟨rfl, rfl⟩
        rw [HW1.out]
        go_wp2
        go_ret2
        exact ⟨_, rfl, World.ownsRow_nil _ _ _ _, hb1⟩
      · have hw2 : win least 1 4096 = false := by
          simp [win] at hw1 ⊢; omega
        have HW1 := Lib.hid hw1
        have HW2 := Lib.hid hw2
        clear hw1 hw2 hg
        go_enter Try.func77, Try.ntmps77
        go_wp2_with fail
        refine (CheckSamples_any _ A n c xs _ H.out (Nat.le_refl _) hl).mono ?_
        rintro e w1 ⟨rfl, hb1⟩
        rw [HC.out]
        go_wp2_with fail
        refine (within64_any _ _ _ _).mono ?_
        rintro e w2 ⟨rfl, rfl⟩
        rw [HW1.out]
        go_wp2_with fail
        refine (within_any _ _ _ _).mono ?_
        rintro e w2 ⟨rfl, rfl⟩
        rw [HW2.out]
        go_wp2
        go_ret2
        exact ⟨_, rfl, World.ownsRow_nil _ _ _ _, hb1⟩
  · have he : slEr limit least xs = ckS xs := by unfold slEr; rw [if_neg hc]
    have hr : slRes limit least xs = [] := by unfold slRes; rw [if_neg (by omega)]
    rw [he, hr]
    have H := Lib.hid (h0.more hB)
    have hc1 : (ckS xs == 0) = false := by simpa using hc
    have hc2 : (ckS xs != 0) = true := by simpa using hc
    clear hc h0 hB he hr
    obtain ⟨q, hq⟩ : ∃ q, q = ckS xs := ⟨_, rfl⟩
    rw [← hq] at hc1 hc2 ⊢
    have HQ := Lib.hid hq
    clear hq
    go_enter Try.func77, Try.ntmps77
    go_wp2_with fail
    refine (CheckSamples_any _ A n c xs _ H.out (Nat.le_refl _) hl).mono ?_
    rintro e w1 ⟨rfl, hb1⟩
    rw [← HQ.out]
    go_wp2
    go_ret2
    exact ⟨_, rfl, World.ownsRow_nil _ _ _ _, hb1⟩
end Go.Proofs.Ytjaomjbhkgijbaa

/-
  Contracts of place and length.
-/
namespace Go.Proofs.Ytjaomjbhkgijbaa
open Go.RowKit

set_option maxRecDepth 100000 in
set_option maxHeartbeats 2000000 in
theorem place_any (B : Nat) (A : Option Addr) (n c : Nat) (ps : List Prt) (w : World) (h0 : RP w B A n ps) (hB : B ≤ w.heap.size) (h32 : ps.length ≤ 32) (hp : ∀ p ∈ ps, PrOk p) :
    Calls Try.prog 83 #[.slice A n c] w (PlPost w (placeL ps 0 0)) := by
  have H := Lib.hid (h0.more hB)
  obtain ⟨hn, -⟩ := h0
  have HN := Lib.hid hn
  have hn32 : n ≤ 32 := by omega
  have HP := Lib.hid hp
  clear hn hB h32 hp
  obtain ⟨R, hR⟩ : ∃ R, placeL ps 0 0 = R := ⟨_, rfl⟩
  have hRl : R.length = n := by rw [← hR, placeL_length]; exact HN.out.symm
  have HRL := Lib.hid hRl
  rw [hR]
  have HR := Lib.hid hR
  clear hR hRl
  obtain ⟨i0, hi0, hz0, hz1, hz2⟩ := info_parts info_placed
  have hmk := fun W => run_make_rowN (P := Try.prog) 114 117 i0 _ Try.underlying114 hi0 hz0 .i64 .i64 0 n (Nat.zero_le _) (by rw [hz2]; omega) (by omega) W
  rw [hz1] at hmk
  simp only [Int.natCast_zero] at hmk
  have HI0 := Lib.hid hi0
  have HZ0 := Lib.hid hz0
  have HZ1 := Lib.hid hz1
  have HZ2 := Lib.hid hz2
  clear hi0 hz0 hz1 hz2
  go_enter Try.func83, Try.ntmps83
  go_wp2
  clear hmk
  go_loopw [3, 4, 13] (fun v e i wr => ∃ (k : Nat) (out : List Pl) (en : Int), k ≤ n ∧ i = .int .i64 k ∧ e = .int .i64 en ∧ out.length = k ∧ -8192 * (k : Int) ≤ en ∧ en ≤ 8192 * (k : Int) ∧
      wr.ownsRow w.heap.size 117 9 v out.length (plCells out) ∧ Below w.heap.size w wr ∧ out ++ placeL (ps.drop k) k en = R) (fun _ _ i wr => n - (intOf i).toNat)
  case atStart =>
    exact ⟨0, [], 0, Nat.zero_le _, rfl, rfl, rfl, by omega, by omega, World.ownsRow_made _ _ _ (Nat.le_refl _) (by unfold maxLen; omega) (by rw [size_madeCells]), (Below.refl _ _).alloc (Nat.le_refl _) _, HR.out⟩
  case round =>
    clear HR
    obtain ⟨k, out, en, hk, rfl, rfl, hout, he1, he2, hown, hb, hR⟩ := hrel
    have HO := Lib.hid hown
    have HR := Lib.hid hR
    have HOUT := Lib.hid hout
    clear hown hR hout
    by_cases hlt : k < n
    · obtain ⟨ad, hA, hbl, p0, p1, p2, p3, p4, p5, p6⟩ := (H.out.below hb (Nat.le_refl _)).at_ (k := k) (by have := HN.out; omega)
      obtain rfl := hA
      have hok := HP.out _ (List.getElem_mem (show k < ps.length by have := HN.out; omega))
      have hd : ps.drop k = ps[k]'(by have := HN.out; omega) :: ps.drop (k + 1) := List.drop_eq_getElem_cons (by have := HN.out; omega)
      obtain ⟨p, hpp⟩ : ∃ p, p = ps[k]'(by have := HN.out; omega) := ⟨_, rfl⟩
      rw [← hpp] at p0 p1 p2 p3 p4 p5 p6 hok hd
      have HD := Lib.hid hd
      clear hpp hd
      have HOK := Lib.hid hok
      obtain ⟨o1, o2, o3, o4, o5⟩ := hok
      have he3 : -262144 ≤ en ∧ en ≤ 262144 := by omega
      obtain ⟨e3, e4⟩ := he3
      have zz := hb.size
      go_wp2_with fail
      refine (pend_any ⟨p, k, en + p.gp⟩ _ ⟨HOK.out, by simp; omega, by simp; omega⟩).mono ?_
      rintro e w1 ⟨rfl, hb1⟩
      have hpe : (Pl.mk p k (en + p.gp)).end_ = en + p.gp + (p.to - p.fr) := rfl
      rw [hpe]
      clear hpe
      have HB1 := Lib.hid hb1
      have hbw : Below w.heap.size w w1 := ((hb.alloc hb.size _).alloc (by simp; omega) _).trans (hb1.mono (by simp; omega))
      have hblk := (Blk.new (wr.alloc (.cells #[.int .i64 p.tk, .int .i64 p.fr, .int .i64 p.to, .int .i64 p.gp, .int .i64 p.fi, .int .i64 p.fo, .int .i64 p.lv] 108)) 117 #[.int .i64 p.tk, .int .i64 p.fr, .int .i64 p.to, .int .i64 p.gp, .int .i64 p.fi, .int .i64 p.fo, .int .i64 p.lv, .int .i64 k, .int .i64 (en + p.gp)]).below hb1 (by simp)
      simp only [World.size_alloc] at hblk
      have g0 := (hblk.cell 0).trans rfl
      have g1 := (hblk.cell 1).trans rfl
      have g2 := (hblk.cell 2).trans rfl
      have g3 := (hblk.cell 3).trans rfl
      have g4 := (hblk.cell 4).trans rfl
      have g5 := (hblk.cell 5).trans rfl
      have g6 := (hblk.cell 6).trans rfl
      have g7 := (hblk.cell 7).trans rfl
      have g8 := (hblk.cell 8).trans rfl
      clear hblk hb1
      have HO1 := Lib.hid (own_below ((HO.out.alloc _).alloc _) HB1.out)
      have zz1 := hbw.size
      have hlen : out.length ≤ 32 := by have := HOUT.out; omega
      go_wp2_with (at_builtin; refine wpList_append_own _ rfl (.tmp 27) (.tmp 29) _ rfl w.heap.size 117 i0 _ 9 72 Try.underlying114 HI0.out HZ0.out HZ1.out HZ2.out rfl (by omega) _ out.length (plCells out) rfl (HO1.out.alloc _) ⟨w1.heap.size, 0, none⟩ 1 1 [.int .i64 p.tk, .int .i64 p.fr, .int .i64 p.to, .int .i64 p.gp, .int .i64 p.fi, .int .i64 p.fo, .int .i64 p.lv, .int .i64 k, .int .i64 (en + p.gp)] rfl rfl (nine_new _ _ _) ?c1 ?c2 ?c3 ?c4 ?_)
      case c1 => first | exact ⟨rfl, rfl, rfl, rfl, rfl, rfl, rfl, rfl, rfl⟩ | (intro u hu; simp at hu; rcases hu with rfl | rfl | rfl | rfl | rfl | rfl | rfl | rfl | rfl <;> rfl)
      case c2 => simp only [maxLen]; omega
      case c3 => omega
      case c4 => first | omega | (simp; omega)
      intro v' w4 hown' hgrow _
      have HO' := Lib.hid hown'
      have HG := Lib.hid hgrow
      clear hown' hgrow
      go_wp2
      go_roundw
      case rel =>
        refine ⟨k + 1, out ++ [⟨p, k, en + p.gp⟩], en + p.gp + (p.to - p.fr), by omega, by go_num, rfl, by simp [HOUT.out], by omega, by omega, ?_, ?_, ?_⟩
        · rw [plCells_snoc]; simpa [plc] using HO'.out
        · exact (hbw.alloc hbw.size _).grown HG.out (by simp; omega) fun j hj => (HO1.out.lt j hj).1
        · rw [← HR.out, HD.out]; simp [placeL]
      case measure => simp [intOf]; omega
    · go_wp2
      go_ret
      have hfin : out = R := by rw [← HR.out, List.drop_eq_nil_of_le (by have := HN.out; omega)]; simp [placeL]
      subst hfin
      obtain ⟨A', c', rfl, hre⟩ := own_reads HO.out
      exact ⟨A', c', rfl, ⟨rfl, hre⟩, hb⟩
end Go.Proofs.Ytjaomjbhkgijbaa

