/-
  The iterator of the edges of all samples.
-/
import Derived.Test.YtgdkcbnpgpjnbaaL4
import Derived.Test.YtgdkcbnpgpjnbaaL2
namespace Go.Proofs.Ytgdkcbnpgpjnbaa
open Go.RowKit Go.Shelf
attribute [local go_sem] Oper.semAt_some

theorem yield_wideL {m m' l L : Nat} {args : Array Value} {W : World} {R : Ending → World → Prop} (h : YieldAt Fence.wide m Try.prog l args W R) :
    ∃ fn tmps assign body, (Instr.yield l args).run Try.prog W = .ok (.round l fn tmps assign body) W ∧ RoundIn (Fence.wide.inRound L) m' Try.prog l fn tmps assign body W R := by
  obtain ⟨fn, tmps, assign, body, hy, hR⟩ := h
  exact ⟨fn, tmps, assign, body, hy, hR.1, fun c cs _ => hR.2 c cs (room_wide _)⟩
/-- What speaks of its own blocks alone abides the turn of marks. -/
theorem own_shutM {σ : Type} {J : σ → World → Prop} {B : Nat} (hJ : OwnFrom B J) {s : σ} : ∀ (ds : List Nat) (W W' : World), ds.Nodup → (∀ D ∈ ds, B ≤ D ∧ W.heap[D]? = some (.deferred (some []))) → ShutM ds W W' → J s W → J s W' := by
  intro ds
  induction ds with
  | nil => exact fun W W' _ _ hs h => hJ s W W' none h ⟨hs.os, hs.tape, hs.output, Nat.le_of_eq hs.size.symm, fun i _ _ => hs.block i (by simp)⟩ (by simp)
  | cons D ds ih =>
    intro W W' hn hall hs h
    obtain ⟨h1, h2⟩ := List.nodup_cons.1 hn
    obtain ⟨hB, hD⟩ := hall D (by simp)
    have hlt : D < W.heap.size := (Array.getElem?_eq_some_iff.1 hD).1
    obtain ⟨o, ho⟩ : ∃ o, W'.heap[D]? = some o := ⟨_, Array.getElem?_eq_getElem (by rw [hs.size]; exact hlt)⟩
    have hg := grownBy_putObj' W D o
    refine ih (W.putObj D o) W' h2 (fun D' hD' => ?_) ⟨hs.os.trans hg.os.symm, hs.tape.trans hg.tape.symm, hs.output.trans hg.output.symm, hs.size.trans (by simp [World.putObj]), fun k hk => ?_⟩ (hJ.putObj _ h hB hD rfl)
    · have hne : D' ≠ D := fun e => h1 (e ▸ hD')
      exact ⟨(hall D' (by simp [hD'])).1, (World.putObj_heap_other hne).trans (hall D' (by simp [hD'])).2⟩
    · by_cases hkD : k = D
      · subst hkD; rw [ho]; exact (World.putObj_heap_same hlt).symm
      · exact (hs.block k (by simp [hkD, hk])).trans (World.putObj_heap_other hkD).symm

theorem keepMarks {ds : List Nat} {B B' : Nat} {X Y : World} {row : Option Nat} (h : ∀ D ∈ ds, D < B) (h3 : ∀ D ∈ ds, B' ≤ D ∧ X.heap[D]? = some (.deferred (some []))) (hg : X.grownBy Y row) (hr : ∀ r, row = some r → B ≤ r) :
    ∀ D ∈ ds, B' ≤ D ∧ Y.heap[D]? = some (.deferred (some [])) := fun D hD =>
  ⟨(h3 D hD).1, (hg.block D (Array.getElem?_eq_some_iff.1 (h3 D hD).2).1 (fun e => by have := hr D e.symm; have := h D hD; omega)).trans (h3 D hD).2⟩

set_option maxHeartbeats 400000 in
theorem edges_any (A : Option Addr) (n c : Nat) (b : Bk) (w : World) :
    Calls Try.prog 45 #[.agg #[.int .i64 b.per, .int .i64 b.rim, .int .i64 b.core, .int .i64 b.land, .int .i64 b.slow, .int .i64 b.fast, .slice A n c]] w fun e w' => e = .returned (.func (.func 69) #[] #[.pointer (some ⟨w.heap.size, 0, none⟩)]) ∧ w.alloc (.cells #[.int .i64 b.per, .int .i64 b.rim, .int .i64 b.core, .int .i64 b.land, .int .i64 b.slow, .int .i64 b.fast, .slice A n c] 69) = w' := by
  go_enter Try.func45, Try.ntmps45
  go_wp2
  go_ret
  exact ⟨rfl, rfl⟩

set_option maxRecDepth 100000 in
set_option maxHeartbeats 8000000 in
theorem edges1_cut (mm bs : Nat) (gg : Nat → Prop) (B : Nat) (A : Option Addr) (n c : Nat) (b : Bk) (P : List Smp) (W0 : World) (hm : 3 ≤ mm)
    (k1 : Blk W0 bs 69 #[.int .i64 b.per, .int .i64 b.rim, .int .i64 b.core, .int .i64 b.land, .int .i64 b.slow, .int .i64 b.fast, .slice A n c]) (ngs : ¬ gg bs) (hgg : ∀ k, gg k → k < W0.heap.size) (hP : RS W0 B A n P) (hB : B ≤ W0.heap.size) (ngA : ∀ ad, A = some ad → ¬ gg ad.block)
    (hn : n ≤ 1000000) (hb : BkOk b) (hOk : PsOk P) :
    SeqCut Fence.wide mm Try.prog 69 #[.pointer (some ⟨bs, 0, none⟩)] encE gg (edsAll b P) W0 := fun l₀ J Jx W hW hJ hJx hY h0 => by
  have hWB : Bel gg W0 W := Bel.of_below hW
  have hbsW := k1.lt
  have hszW := hWB.size
  have K1 := Lib.hid (k1.bel hWB ngs)
  have HP := Lib.hid (hP.bel hWB ngA)
  have HNP : Hid (n = P.length) := Lib.hid hP.1
  have HB := Lib.hid hb
  have HOK := Lib.hid hOk
  have HY := Lib.hid hY
  have HJ := Lib.hid hJ
  have HJX := Lib.hid hJx
  have NA := Lib.hid ngA
  have NS := Lib.hid ngs
  have NG := Lib.hid hgg
  clear k1 hP hb hOk hY hJ hJx ngA hW hWB ngs hgg
  refine callsIn_of_wp_marks Try.func69 rfl trivial ?_ rfl
  simp only [Try.ntmps69, List.size_toArray, List.length_cons, List.length_nil, Nat.reduceAdd, Nat.reduceSub, Array.replicate_succ, Array.replicate_zero, List.push_toArray, List.append_toArray, List.nil_append, List.cons_append]
  have t6 := ((below_a W (.cells #[.func (.yield l₀) #[] #[]] 85)).cell (p := ⟨bs, 6, none⟩) K1.out.lt).trans ((K1.out.cell 6).trans rfl)
  gi_wp2_with fail
  obtain ⟨W1, hW1⟩ : ∃ W1, W.alloc (.cells #[.func (.yield l₀) #[] #[]] 85) = W1 := ⟨_, rfl⟩
  have hb1 : Below W.heap.size W W1 := by rw [← hW1]; exact below_a _ _
  have ky : Blk W1 W.heap.size 85 #[.func (.yield l₀) #[] #[]] := by rw [← hW1]; exact Blk.new _ _ _
  have hs1 : W1.heap.size = W.heap.size + 1 := by rw [← hW1]; simp
  rw [hW1]
  clear hW1 t6
  have K1' := Lib.hid (K1.out.below hb1 K1.out.lt)
  have HP' := Lib.hid (HP.out.bel (gg := gg) (Bel.of_below hb1) NA.out)
  have hJ0 := HJ.out [] W W1 none h0 (grown_bE hb1) (by simp)
  have HJ0 := Lib.hid hJ0
  have KY := Lib.hid ky
  clear hb1 ky hJ0 h0
  refine wpIn_loop (fun a wr => ∃ (k : Nat) (ds : List Nat) (v3 u9 u10 u11 u12 u13 u19 : Value), a = { tmps := #[.func (.yield l₀) #[] #[], .pointer (some ⟨bs, 0, none⟩), .pointer (some ⟨W.heap.size, 0, none⟩), v3, undef, .pointer (some ⟨bs, 6, none⟩), .slice A n c, .int .i64 n, .int .i64 k, u9, u10, u11, u12, u13, undef, undef, undef, undef, undef, u19], defers := Marks ds } ∧ k ≤ n ∧ J (edsUp b P k) wr ∧ Bel gg W1 wr ∧ ds.Nodup ∧ ∀ D ∈ ds, W.heap.size ≤ D ∧ wr.heap[D]? = some (.deferred (some []))) (fun a _ => n - (intOf (a.tmps.getD 8 undef)).toNat) ?start ?round
  case start => exact ⟨0, [], _, _, _, _, _, _, _, rfl, Nat.zero_le _, HJ0.out, Bel.refl _ _, by simp, by simp⟩
  case round =>
    rintro a wr ⟨k, ds, v3, u9, u10, u11, u12, u13, u19, rfl, hk, hJk, hbel, hnd, hds⟩
    have HJK := Lib.hid hJk
    have HBEL := Lib.hid hbel
    have HND := Lib.hid hnd
    have HDS := Lib.hid hds
    have z3 := hbel.size
    clear hJk hnd hds
    by_cases hlt : k < n
    · obtain ⟨s0, s1, s2, s3, s4, s5, s6⟩ := (K1'.out.bel hbel NS.out).seven
      clear hbel
      gi_wp2_with fail
      refine ⟨trivial, fun _ => by omega, (callsIn_wide.2 (edgesAt_any A n c b k wr)).mono ?_⟩
      rintro e w5 ⟨rfl, hw5⟩
      have hb5 : Below wr.heap.size wr w5 := by rw [← hw5]; exact ((Below.refl _ _).alloc (Nat.le_refl _) _).alloc (by simp) _
      have q1 : Blk w5 wr.heap.size 69 #[.int .i64 b.per, .int .i64 b.rim, .int .i64 b.core, .int .i64 b.land, .int .i64 b.slow, .int .i64 b.fast, .slice A n c] := by rw [← hw5]; exact (Blk.new _ _ _).alloc _
      have q2 : Blk w5 (wr.heap.size + 1) 3 #[.int .i64 k] := by rw [← hw5]; exact blk_al (by simp)
      have hs5 : w5.heap.size = wr.heap.size + 2 := by rw [← hw5]; simp
      obtain ⟨W5, hW5⟩ : ∃ W5, w5 = W5 := ⟨_, rfl⟩
      rw [hW5] at hb5 q1 q2 hs5 ⊢
      clear hw5 hW5 s0 s1 s2 s3 s4 s5 s6
      gi_wp2_with fail
      have hbel5 : Bel gg W1 W5 := HBEL.out.trans (Bel.of_below hb5)
      have hJ5 := HJ.out _ wr W5 none HJK.out (grown_bE hb5) (by simp)
      have hD5 : ∀ D ∈ ds, W.heap.size ≤ D ∧ W5.heap[D]? = some (.deferred (some [])) := fun D hD => ⟨(HDS.out D hD).1, (hb5.block D (Array.getElem?_eq_some_iff.1 (HDS.out D hD).2).1).trans (HDS.out D hD).2⟩
      have hcut := edgesAt1_cut (mm - 1) wr.heap.size (wr.heap.size + 1) gg B A n c b P k W5 (by omega) q1 q2 (fun h => by have := NG.out _ h; omega) (fun h => by have := NG.out _ h; omega) (HP'.out.bel hbel5 NA.out) (by omega) NA.out hn HB.out HOK.out
      have HPFX : Hid (∀ (pre : List Ed), pre <+: edsAt b P k → edsUp b P k ++ pre <+: edsAll b P) := Lib.hid (fun pre hp => by
        refine List.IsPrefix.trans ((List.prefix_append_right_inj _).2 hp) ?_
        rw [← edsUp_succ]; exact edsUp_prefix b P (k + 1) P.length (by rw [← HNP.out]; omega))
      have HL5 : Hid (∀ D ∈ ds, D < W5.heap.size) := Lib.hid (fun D hD => (Array.getElem?_eq_some_iff.1 (hD5 D hD).2).1)
      refine wpIn_rangeCut rfl (by omega) (gf := 77) (lb := #[.pointer (some ⟨wr.heap.size, 0, none⟩), .pointer (some ⟨wr.heap.size + 1, 0, none⟩)]) rfl trivial (enters_of Try.func77 (by kernel_rfl) rfl)
        hcut (Below.refl _ _) (fun _ => rfl)
        (fun pre X => J (edsUp b P k ++ pre) X ∧ Bel gg W1 X ∧ (∀ D ∈ ds, W.heap.size ≤ D ∧ X.heap[D]? = some (.deferred (some []))) ∧ W5.heap.size ≤ X.heap.size)
        (fun pre X => Jx (edsUp b P k ++ pre) X ∧ ∀ D ∈ ds, W.heap.size ≤ D ∧ X.heap[D]? = some (.deferred (some [])))
        ?hI ?hIx ?h0 (fun pre x a' X => (J (edsUp b P k ++ pre) X ∧ Bel gg W1 X ∧ (∀ D ∈ ds, W.heap.size ≤ D ∧ X.heap[D]? = some (.deferred (some []))) ∧ W5.heap.size ≤ X.heap.size) ∧ ∃ bp, W5.heap.size ≤ bp ∧ Blk X bp 78 #[.int .i64 x.1, .int .i64 x.2.1, .int .i64 x.2.2.1, .int .i64 x.2.2.2.1, .int .i64 x.2.2.2.2] ∧ a' = { tmps := #[.func (.yield l₀) #[] #[], .pointer (some ⟨bs, 0, none⟩), .pointer (some ⟨W.heap.size, 0, none⟩), .int .i64 k, .pointer (some ⟨bp, 0, none⟩), .pointer (some ⟨bs, 6, none⟩), .slice A n c, .int .i64 n, .int .i64 k, .bool true, .int .i64 k, .agg #[.int .i64 b.per, .int .i64 b.rim, .int .i64 b.core, .int .i64 b.land, .int .i64 b.slow, .int .i64 b.fast, .slice A n c], .int .i64 k, .func (.func 77) #[] #[.pointer (some ⟨wr.heap.size, 0, none⟩), .pointer (some ⟨wr.heap.size + 1, 0, none⟩)], edCells x, undef, undef, undef, undef, u19], defers := [] }) ?hAx ?assign ?body ?done ?stop
      case hI =>
        rintro s X Y row ⟨i1, i2, i3, i4⟩ hgr hr
        exact ⟨HJ.out _ X Y row i1 hgr (fun r e => ⟨by have := (hr r e).1; omega, (hr r e).2⟩), i2.grown hgr (fun k e => .inr (.inr (hr k e).2)), keepMarks HL5.out i3 hgr (fun r e => (hr r e).1), Nat.le_trans i4 hgr.size⟩
      case hIx =>
        rintro s X Y row ⟨i1, i3⟩ hgr hr
        exact ⟨HJX.out _ X Y row i1 hgr (fun r e => ⟨by have := (hr r e).1; omega, (hr r e).2⟩), keepMarks HL5.out i3 hgr (fun r e => (hr r e).1)⟩
      case h0 => exact ⟨by rw [List.append_nil]; exact hJ5, hbel5, hD5, Nat.le_refl _⟩
      case hAx =>
        rintro pre x a' s X Y row ⟨⟨i1, i2, i3, i4⟩, bp, h1, h2, h3⟩ hgr hr
        exact ⟨⟨HJ.out _ X Y row i1 hgr (fun r e => ⟨by have := (hr r e).1; omega, (hr r e).2⟩), i2.grown hgr (fun k e => .inr (.inr (hr k e).2)), keepMarks HL5.out i3 hgr (fun r e => (hr r e).1), Nat.le_trans i4 hgr.size⟩, bp, h1, blk_keptR h2 hgr (fun r e => (hr r e).2), h3⟩
      case assign =>
        rintro l' pre ⟨e1, e2, e3, e4, e5⟩ X K ⟨i1, i2, i3, i4⟩ hK
        simp only [encE, edCells] at hK ⊢
        gi_wp2
        have hG := World.grownBy_alloc X (.cells #[.int .i64 e1, .int .i64 e2, .int .i64 e3, .int .i64 e4, .int .i64 e5] 78) none
        exact hK _ _ hG ⟨⟨HJ.out _ _ _ none i1 hG (by simp), i2.alloc _, keepMarks HL5.out i3 hG (by simp), Nat.le_trans i4 hG.size⟩, X.heap.size, i4, Blk.new _ _ _, rfl⟩
      case body =>
        rintro L pre ⟨e1, e2, e3, e4, e5⟩ a' X hL ⟨⟨i1, i2, i3, i4⟩, bp, hbp, hBx, rfl⟩ hpre
        have HPX := Lib.hid (HPFX.out _ hpre)
        have I1 := Lib.hid i1
        have I2 := Lib.hid i2
        have I3 := Lib.hid i3
        have y0 := (KY.out.bel i2 (fun h => by have := NG.out _ h; omega)).one.1
        have x0 := (hBx.cell 0).trans rfl
        have x1 := (hBx.cell 1).trans rfl
        have x2 := (hBx.cell 2).trans rfl
        have x3 := (hBx.cell 3).trans rfl
        have x4 := (hBx.cell 4).trans rfl
        obtain ⟨fn, tmps, assign, body, hy, hR⟩ := yield_wideL (L := L) (m' := mm - 1 - 1 - 1) (HY.out _ _ X i1 (by rw [List.append_assoc]; exact HPX.out))
        dsimp only [encE, edCells] at hy
        have HRR := Lib.hid hR
        clear i1 i2 i3 hBx hR hpre hcut hJ5 hbel5 hD5 q1 q2 hb5
        gi_wp2
        refine ⟨fun _ => by omega, HRR.out.mono ?_⟩
        rintro e W3 ⟨hk3, (⟨rfl, hJ3, hb3⟩ | ⟨rfl, hJx3⟩)⟩
        · gi_wp2
          exact ⟨⟨hk3.size, fun k o h => hk3.same k o (by omega)⟩, hb3, by rw [← List.append_assoc]; exact hJ3, I2.out.trans hb3, fun D hD => ⟨(I3.out D hD).1, hk3.same D _ (I3.out D hD).1 (I3.out D hD).2 rfl⟩, Nat.le_trans i4 hk3.size⟩
        · gi_wp2
          exact ⟨⟨hk3.size, fun k o h => hk3.same k o (by omega)⟩, by rw [← List.append_assoc]; exact hJx3, fun D hD => ⟨(I3.out D hD).1, hk3.same D _ (I3.out D hD).1 (I3.out D hD).2 rfl⟩⟩
      case done =>
        rintro D X hD ⟨i1, i2, i3, i4⟩ hK
        have I1 := Lib.hid i1
        have I2 := Lib.hid i2
        have I3 := Lib.hid i3
        have HKD := Lib.hid hK
        clear i1 i2 i3 hK hcut hJ5 hbel5 hD5 q1 q2 hb5
        gi_wp2
        refine ⟨⟨k + 1, D :: ds, ?_⟩, ?_⟩
        rotate_left
        · simp [intOf]; omega
        iterate 7 apply Exists.intro
        refine ⟨?_, by omega, ?_, I2.out, ?_, ?_⟩
        · rw [show ((k + 1 : Nat) : Int) = (k : Int) + 1 from by omega]; rfl
        · rw [edsUp_succ]; exact I1.out
        · refine List.nodup_cons.2 ⟨fun hm => ?_, HND.out⟩
          have hx := HL5.out D hm
          omega
        · intro D' hm
          rcases List.mem_cons.1 hm with rfl | hm
          · exact ⟨by omega, HKD.out⟩
          · exact I3.out D' hm
      case stop =>
        rintro D pre x X hD hpx ⟨i1, i3⟩ hK
        have I1 := Lib.hid i1
        have HPX := Lib.hid (HPFX.out _ hpx)
        have hall : ∀ D' ∈ D :: ds, W.heap.size ≤ D' ∧ X.heap[D']? = some (.deferred (some [])) := fun D' hm => by
          rcases List.mem_cons.1 hm with rfl | hm
          · exact ⟨by omega, hK⟩
          · exact i3 D' hm
        have hnd : (D :: ds).Nodup := List.nodup_cons.2 ⟨fun hm => by have := HL5.out D hm; omega, HND.out⟩
        clear hcut hJ5 hbel5 hD5 q1 q2 hb5 i1
        gi_wp2_with fail
        refine leaves_marks (D :: ds) X hnd (fun D hD => (hall D hD).2) (fun W' hs => ?_)
        refine ⟨_, results_none rfl _ _ _, ⟨_, rfl⟩, .inr ⟨edsUp b P k ++ pre, x, by rw [List.append_assoc]; exact HPX.out, ?_⟩⟩
        rw [List.append_assoc]
        exact own_shutM HJX.out (D :: ds) X W' hnd hall hs I1.out
    · obtain rfl : k = n := by omega
      clear hbel
      have HPL : Hid (edsUp b P k = edsAll b P) := Lib.hid (by rw [HNP.out])
      gi_wp2_with fail
      refine leaves_marks ds wr HND.out (fun D hD => (HDS.out D hD).2) (fun W' hs => ?_)
      refine ⟨_, results_none rfl _ _ _, ⟨_, rfl⟩, .inl ?_⟩
      rw [← HPL.out]
      exact own_shutM HJ.out ds wr W' HND.out HDS.out hs HJK.out
end Go.Proofs.Ytgdkcbnpgpjnbaa
