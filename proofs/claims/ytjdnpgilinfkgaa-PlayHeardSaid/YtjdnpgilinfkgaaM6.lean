/-
  The points that a stylus reads, and those that it sweeps: trace.
-/
import Derived.Test.YtjdnpgilinfkgaaM5
import Derived.Test.YtjdnpgilinfkgaaLt
import Derived.Test.YtjdnpgilinfkgaaW2
namespace Go.Proofs.Ytjdnpgilinfkgaa
open Go.RowKit

theorem info_pt : (Try.prog.info? 69).map (fun i => (i.zero, i.size, i.bytes)) = some (some (.agg #[.int .i64 0, .int .i64 0]), 2, 16) := by kernel_rfl
theorem own_readsC {w : World} {base : Nat} {e : TypeId} {size : Nat} {v : Value} {n : Nat} {xs : List Value} (h : w.ownsRow base e size v n xs) :
    ∃ A c, v = .slice A n c ∧ Reads w w.heap.size size A n xs ∧ n ≤ c := by
  rcases h.2 with ⟨rfl, rfl⟩ | ⟨g, cap, cur, rfl, _, _, h1, _⟩
  · exact ⟨none, 0, rfl, ⟨h.1, fun hn => absurd hn (by omega)⟩, Nat.le_refl _⟩
  · exact ⟨some ⟨g, 0, none⟩, cap, rfl, ⟨h.1, fun hn => ⟨⟨g, 0, none⟩, rfl, (h.lt g rfl).2, h.cells (g := g) rfl⟩⟩, h1⟩
/-- What a call leaves that returns a groove and an error. -/
def PtsPost (w : World) (er : Int) (l : List Smp) (e : Ending) (w' : World) : Prop :=
  ∃ A n k, e = .returned (.tuple #[.slice A n k, .int .i64 er]) ∧ RS w' w'.heap.size A n l ∧ n ≤ k ∧ Below w.heap.size w w'
/-- What a call leaves that returns a groove. -/
def LinePost (w : World) (l : List Smp) (e : Ending) (w' : World) : Prop :=
  ∃ A n k, e = .returned (.slice A n k) ∧ RS w' w'.heap.size A n l ∧ n ≤ k ∧ Below w.heap.size w w'
theorem ofW_take {n j : Nat} (i o : Nat → Int) (h : j < n) : (ofW n i o).take (j + 1) = (ofW n i o).take j ++ [(-(i j), o j)] := by
  rw [List.take_succ_eq_append_getElem (by rw [ofW_len]; exact h)]
  simp [ofW]

set_option maxRecDepth 100000 in
set_option maxHeartbeats 4000000 in
theorem traceRead_any (B : Nat) (s : List Int) (Af A : Option Addr) (nf cf n c : Nat) (l : List Smp) (w : World) (hL : LI w B Af nf (flk s)) (h0 : RS w B A n l) (hB : B ≤ w.heap.size) (hs : Shp s) (he : Edg l) (hn : n ≤ 4096) :
    Calls Try.prog 62 #[.iface 110 (.agg #[.slice Af nf cf, .int .i64 ((s.length - 1 : Nat) : Int), .slice A n c]), .int .i64 n] w (LinePost w (ofW n (er s n (innW l)) (er s n (outW l)))) := by
  have hln := h0.1
  have IN := Lib.hid (fun (t : Nat) (ht : t < n) W (hb : Below w.heap.size w W) => readInner_any B s Af A nf cf n c t l W (hL.below hb hB) (h0.below hb hB) (Nat.le_trans hB hb.size) hs he ht hn)
  have OUT := Lib.hid (fun (t : Nat) (ht : t < n) W (hb : Below w.heap.size w W) => readOuter_any B s Af A nf cf n c t l W (hL.below hb hB) (h0.below hb hB) (Nat.le_trans hB hb.size) hs he ht hn)
  have hiw : Wal n (er s n (innW l)) := by subst hln; exact er_wal hs he.1
  have how : Wal n (er s n (outW l)) := by subst hln; exact er_wal hs he.2
  obtain ⟨wi, hwi⟩ : ∃ x, er s n (innW l) = x := ⟨_, rfl⟩
  obtain ⟨wo, hwo⟩ : ∃ x, er s n (outW l) = x := ⟨_, rfl⟩
  rw [hwi] at IN hiw
  rw [hwo] at OUT how
  rw [hwi, hwo]
  have HIW := Lib.hid hiw
  have HOW := Lib.hid how
  obtain ⟨rc, hrc⟩ : ∃ rc, s.length - 1 = rc := ⟨_, rfl⟩
  rw [hrc] at IN OUT
  rw [hrc]
  obtain ⟨rv, hrv⟩ : ∃ rv, Value.agg #[.slice Af nf cf, .int .i64 (rc : Int), .slice A n c] = rv := ⟨_, rfl⟩
  rw [hrv] at IN OUT
  rw [hrv]
  have hm1 : ∀ (k : Nat) (W : World), (method (k + 1) 110 rv "deadwax/play.inner").run Try.prog W = .ok (136, rv) W := fun _ _ => by kernel_rfl
  have hm2 : ∀ (k : Nat) (W : World), (method (k + 1) 110 rv "deadwax/play.outer").run Try.prog W = .ok (137, rv) W := fun _ _ => by kernel_rfl
  clear hL h0 hB hs he hln hwi hwo hiw how hrc hrv
  obtain ⟨i0, hi0, hz0, hz1, hz2⟩ := info_parts info_pt
  have HI0 := Lib.hid hi0
  have HZ0 := Lib.hid hz0
  have HZ1 := Lib.hid hz1
  have HZ2 := Lib.hid hz2
  have hmk := fun (W : World) => run_make_rowN (P := Try.prog) 104 69 i0 _ Try.underlying104 hi0 hz0 .i64 .i64 0 n (Nat.zero_le _) (by rw [hz2]; omega) (by omega) W
  rw [hz1] at hmk
  simp only [Int.natCast_zero] at hmk
  clear hi0 hz0 hz1 hz2
  go_enter Try.func62, Try.ntmps62
  go_wp2_with fail
  have hown : (w.alloc (.cells (madeCells #[.int .i64 0, .int .i64 0] (n * 2)) 69)).ownsRow w.heap.size 69 2 (.slice (some ⟨w.heap.size, 0, none⟩) 0 n) 0 [] :=
    World.ownsRow_made (base := w.heap.size) (e := 69) (size := 2) w (madeCells (Value.agg #[Value.int IntKind.i64 0, Value.int IntKind.i64 0]).cells (n * 2)) n (Nat.le_refl _) (by unfold maxLen; omega) (by rw [size_madeCells])
  obtain ⟨W, hW⟩ : ∃ W, w.alloc (.cells (madeCells #[.int .i64 0, .int .i64 0] (n * 2)) 69) = W := ⟨_, rfl⟩
  have hbw : Below w.heap.size w W := by rw [← hW]; exact (Below.refl _ _).alloc (Nat.le_refl _) _
  rw [hW] at hown ⊢
  have HO := Lib.hid hown
  have HB := Lib.hid hbw
  clear hown hmk hW hbw
  go_wp2_with fail
  go_loopw [5, 10] (fun v z wr => ∃ (j : Nat) (sv : Value), j ≤ n ∧ z = .int .i64 j ∧ sv = v ∧ Hid (wr.ownsRow w.heap.size 69 2 sv j (smpCells ((ofW n wi wo).take j))) ∧ Hid (Below w.heap.size w wr)) (fun v z wr => n - (intOf z).toNat)
  case atStart => exact ⟨0, _, Nat.zero_le _, rfl, rfl, HO, HB⟩
  case round =>
    clear HO HB
    obtain ⟨j, sv, hj, rfl, rfl, HO, HB⟩ := hrel
    by_cases hlt : j < n
    · have HSN := Lib.hid (ofW_take wi wo hlt)
      have b1 := HIW.out j hlt
      have b2 := HOW.out j hlt
      have CI := Lib.hid (IN.out j hlt)
      have CO := Lib.hid (OUT.out j hlt)
      obtain ⟨x, hx⟩ : ∃ x, wi j = x := ⟨_, rfl⟩
      obtain ⟨y, hy⟩ : ∃ y, wo j = y := ⟨_, rfl⟩
      rw [hx] at HSN b1 CI
      rw [hy] at HSN b2 CO
      clear hx hy
      have e1 : IntKind.i64.wrap (-x) = -x := IntWalk.i64_in _ (by omega)
      go_wp2_with fail
      refine (CI.out wr HB.out).mono ?_
      rintro e w1 ⟨rfl, hb1⟩
      have HO := Lib.hid (own_below HO.out hb1)
      have HB := Lib.hid (HB.out.trans (hb1.mono HB.out.size))
      clear hb1 CI
      go_wp2_with fail
      refine (CO.out w1 HB.out).mono ?_
      rintro e w2 ⟨rfl, hb1⟩
      have HO := Lib.hid (own_below HO.out hb1)
      have HB := Lib.hid (HB.out.trans (hb1.mono HB.out.size))
      have hs2 := HB.out.size
      clear hb1 CO e1
      go_wp2_with (at_builtin; refine wpList_append_any _ rfl (.tmp 13) (.tmp 22) _ rfl w.heap.size 69 i0 _ 2 16 Try.underlying104 HI0.out HZ0.out HZ1.out HZ2.out rfl (by omega) sv j _ rfl (HO.out.alloc _) (w2.heap.size + 1) (some ⟨w2.heap.size, 0, none⟩) 1 1 [.int .i64 (-x), .int .i64 y] rfl (reads_cells (blk_al rfl) (Nat.lt_succ_self _) (by rfl) (by rfl)) (by intro u hu; simp at hu; rcases hu with rfl | rfl <;> rfl) (by unfold maxLen; omega) (by omega) (by simp; omega) ?_)
      intro v' w4 hown' hgrow _
      have HO4 : Hid (w4.ownsRow w.heap.size 69 2 v' (j + 1) (smpCells ((ofW n wi wo).take (j + 1)))) := Lib.hid (by rw [HSN.out, smpCells_snoc]; exact hown')
      have HB4 := Lib.hid ((HB.out.alloc HB.out.size (.cells #[.int .i64 (-x), .int .i64 y] 69)).grown hgrow (by simp; omega) (fun g hg => by have := (HO.out.lt g hg).1; omega))
      clear hown' hgrow HO HB b1 b2
      go_wp2
      go_roundw
      case rel => exact ⟨j + 1, v', by omega, by go_num, rfl, HO4, HB4⟩
      case measure => simp [intOf]; omega
    · obtain rfl : j = n := by omega
      obtain ⟨A', c', hv, hr, hc⟩ := own_readsC HO.out
      subst hv
      rw [List.take_of_length_le (by rw [ofW_len]; exact Nat.le_refl _)] at hr
      have HRD := Lib.hid hr
      clear hr
      go_wp2
      go_ret
      exact ⟨A', j, c', rfl, ⟨(ofW_len _ _ _).symm, HRD.out⟩, hc, HB.out⟩

set_option maxRecDepth 100000 in
set_option maxHeartbeats 4000000 in
theorem traceSweep_any (B : Nat) (s : List Int) (Af A : Option Addr) (nf cf n c : Nat) (l : List Smp) (w : World) (hL : LI w B Af nf (flk s)) (h0 : RS w B A n l) (hB : B ≤ w.heap.size) (hs : Shp s) (he : Edg l) (hq : Wal l.length (dl s l.length (innW l)) ∧ Wal l.length (dl s l.length (outW l))) (hn : n ≤ 4096) :
    Calls Try.prog 62 #[.iface 142 (.agg #[.slice Af nf cf, .int .i64 ((s.length - 1 : Nat) : Int), .slice A n c]), .int .i64 n] w (LinePost w (ofW n (dl s n (innW l)) (dl s n (outW l)))) := by
  have hln := h0.1
  have IN := Lib.hid (fun (t : Nat) (ht : t < n) W (hb : Below w.heap.size w W) => sweepInner_any B s Af A nf cf n c t l W (hL.below hb hB) (h0.below hb hB) (Nat.le_trans hB hb.size) hs he ht hn)
  have OUT := Lib.hid (fun (t : Nat) (ht : t < n) W (hb : Below w.heap.size w W) => sweepOuter_any B s Af A nf cf n c t l W (hL.below hb hB) (h0.below hb hB) (Nat.le_trans hB hb.size) hs he ht hn)
  have hiw : Wal n (dl s n (innW l)) := by subst hln; exact hq.1
  have how : Wal n (dl s n (outW l)) := by subst hln; exact hq.2
  obtain ⟨wi, hwi⟩ : ∃ x, dl s n (innW l) = x := ⟨_, rfl⟩
  obtain ⟨wo, hwo⟩ : ∃ x, dl s n (outW l) = x := ⟨_, rfl⟩
  rw [hwi] at IN hiw
  rw [hwo] at OUT how
  rw [hwi, hwo]
  have HIW := Lib.hid hiw
  have HOW := Lib.hid how
  obtain ⟨rc, hrc⟩ : ∃ rc, s.length - 1 = rc := ⟨_, rfl⟩
  rw [hrc] at IN OUT
  rw [hrc]
  obtain ⟨rv, hrv⟩ : ∃ rv, Value.agg #[.slice Af nf cf, .int .i64 (rc : Int), .slice A n c] = rv := ⟨_, rfl⟩
  rw [hrv] at IN OUT
  rw [hrv]
  have hm1 : ∀ (k : Nat) (W : World), (method (k + 1) 142 rv "deadwax/play.inner").run Try.prog W = .ok (140, rv) W := fun _ _ => by kernel_rfl
  have hm2 : ∀ (k : Nat) (W : World), (method (k + 1) 142 rv "deadwax/play.outer").run Try.prog W = .ok (141, rv) W := fun _ _ => by kernel_rfl
  clear hL h0 hB hs he hln hwi hwo hiw how hrc hrv
  obtain ⟨i0, hi0, hz0, hz1, hz2⟩ := info_parts info_pt
  have HI0 := Lib.hid hi0
  have HZ0 := Lib.hid hz0
  have HZ1 := Lib.hid hz1
  have HZ2 := Lib.hid hz2
  have hmk := fun (W : World) => run_make_rowN (P := Try.prog) 104 69 i0 _ Try.underlying104 hi0 hz0 .i64 .i64 0 n (Nat.zero_le _) (by rw [hz2]; omega) (by omega) W
  rw [hz1] at hmk
  simp only [Int.natCast_zero] at hmk
  clear hi0 hz0 hz1 hz2
  go_enter Try.func62, Try.ntmps62
  go_wp2_with fail
  have hown : (w.alloc (.cells (madeCells #[.int .i64 0, .int .i64 0] (n * 2)) 69)).ownsRow w.heap.size 69 2 (.slice (some ⟨w.heap.size, 0, none⟩) 0 n) 0 [] :=
    World.ownsRow_made (base := w.heap.size) (e := 69) (size := 2) w (madeCells (Value.agg #[Value.int IntKind.i64 0, Value.int IntKind.i64 0]).cells (n * 2)) n (Nat.le_refl _) (by unfold maxLen; omega) (by rw [size_madeCells])
  obtain ⟨W, hW⟩ : ∃ W, w.alloc (.cells (madeCells #[.int .i64 0, .int .i64 0] (n * 2)) 69) = W := ⟨_, rfl⟩
  have hbw : Below w.heap.size w W := by rw [← hW]; exact (Below.refl _ _).alloc (Nat.le_refl _) _
  rw [hW] at hown ⊢
  have HO := Lib.hid hown
  have HB := Lib.hid hbw
  clear hown hmk hW hbw
  go_wp2_with fail
  go_loopw [5, 10] (fun v z wr => ∃ (j : Nat) (sv : Value), j ≤ n ∧ z = .int .i64 j ∧ sv = v ∧ Hid (wr.ownsRow w.heap.size 69 2 sv j (smpCells ((ofW n wi wo).take j))) ∧ Hid (Below w.heap.size w wr)) (fun v z wr => n - (intOf z).toNat)
  case atStart => exact ⟨0, _, Nat.zero_le _, rfl, rfl, HO, HB⟩
  case round =>
    clear HO HB
    obtain ⟨j, sv, hj, rfl, rfl, HO, HB⟩ := hrel
    by_cases hlt : j < n
    · have HSN := Lib.hid (ofW_take wi wo hlt)
      have b1 := HIW.out j hlt
      have b2 := HOW.out j hlt
      have CI := Lib.hid (IN.out j hlt)
      have CO := Lib.hid (OUT.out j hlt)
      obtain ⟨x, hx⟩ : ∃ x, wi j = x := ⟨_, rfl⟩
      obtain ⟨y, hy⟩ : ∃ y, wo j = y := ⟨_, rfl⟩
      rw [hx] at HSN b1 CI
      rw [hy] at HSN b2 CO
      clear hx hy
      have e1 : IntKind.i64.wrap (-x) = -x := IntWalk.i64_in _ (by omega)
      go_wp2_with fail
      refine (CI.out wr HB.out).mono ?_
      rintro e w1 ⟨rfl, hb1⟩
      have HO := Lib.hid (own_below HO.out hb1)
      have HB := Lib.hid (HB.out.trans (hb1.mono HB.out.size))
      clear hb1 CI
      go_wp2_with fail
      refine (CO.out w1 HB.out).mono ?_
      rintro e w2 ⟨rfl, hb1⟩
      have HO := Lib.hid (own_below HO.out hb1)
      have HB := Lib.hid (HB.out.trans (hb1.mono HB.out.size))
      have hs2 := HB.out.size
      clear hb1 CO e1
      go_wp2_with (at_builtin; refine wpList_append_any _ rfl (.tmp 13) (.tmp 22) _ rfl w.heap.size 69 i0 _ 2 16 Try.underlying104 HI0.out HZ0.out HZ1.out HZ2.out rfl (by omega) sv j _ rfl (HO.out.alloc _) (w2.heap.size + 1) (some ⟨w2.heap.size, 0, none⟩) 1 1 [.int .i64 (-x), .int .i64 y] rfl (reads_cells (blk_al rfl) (Nat.lt_succ_self _) (by rfl) (by rfl)) (by intro u hu; simp at hu; rcases hu with rfl | rfl <;> rfl) (by unfold maxLen; omega) (by omega) (by simp; omega) ?_)
      intro v' w4 hown' hgrow _
      have HO4 : Hid (w4.ownsRow w.heap.size 69 2 v' (j + 1) (smpCells ((ofW n wi wo).take (j + 1)))) := Lib.hid (by rw [HSN.out, smpCells_snoc]; exact hown')
      have HB4 := Lib.hid ((HB.out.alloc HB.out.size (.cells #[.int .i64 (-x), .int .i64 y] 69)).grown hgrow (by simp; omega) (fun g hg => by have := (HO.out.lt g hg).1; omega))
      clear hown' hgrow HO HB b1 b2
      go_wp2
      go_roundw
      case rel => exact ⟨j + 1, v', by omega, by go_num, rfl, HO4, HB4⟩
      case measure => simp [intOf]; omega
    · obtain rfl : j = n := by omega
      obtain ⟨A', c', hv, hr, hc⟩ := own_readsC HO.out
      subst hv
      rw [List.take_of_length_le (by rw [ofW_len]; exact Nat.le_refl _)] at hr
      have HRD := Lib.hid hr
      clear hr
      go_wp2
      go_ret
      exact ⟨A', j, c', rfl, ⟨(ofW_len _ _ _).symm, HRD.out⟩, hc, HB.out⟩
end Go.Proofs.Ytjdnpgilinfkgaa
