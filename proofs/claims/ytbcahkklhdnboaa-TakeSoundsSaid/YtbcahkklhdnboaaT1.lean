/-
  Contract of the document's sources.
-/
import Derived.Test.YtbcahkklhdnboaaS4
import Derived.Test.YtbcahkklhdnboaaC0
import Derived.Deep.RegionHeld3
namespace Go.Proofs.Ytbcahkklhdnboaa
open Go.RowKit

/-- What sounds, as Sources tells it. -/
def src (x : Pl × Int) : List Value := [.int .i64 x.1.ix, .int .i64 x.1.p.tk, .int .i64 (x.1.p.fr + x.2)]
def srcCells (L : List (Pl × Int)) : List Value := L.flatMap src
theorem srcCells_snoc (L : List (Pl × Int)) (x : Pl × Int) : srcCells (L ++ [x]) = srcCells L ++ src x := by simp [srcCells]
theorem info_src : (Try.prog.info? 36).map (fun i => (i.zero, i.size, i.bytes)) = some (some (.agg #[.int .i64 0, .int .i64 0, .int .i64 0]), 3, 24) := by kernel_rfl
theorem reads_new3 (w : World) (a0 a1 a2 : Value) (t : TypeId) : Reads (w.alloc (.cells #[a0, a1, a2] t)) (w.heap.size + 1) 3 (some ⟨w.heap.size, 0, none⟩) 1 [a0, a1, a2] :=
  ⟨rfl, fun _ => ⟨_, rfl, by show w.heap.size < _; omega, nine_new w [a0, a1, a2] t⟩⟩
/-- What the document's sources hands back. -/
def SrcPost (w : World) (L : List (Pl × Int)) (e : Ending) (w' : World) : Prop :=
  ∃ v, e = .returned v ∧ w'.ownsRow w.heap.size 36 3 v L.length (srcCells L) ∧ Below w.heap.size w w'
theorem own_base {w : World} {b b' : Nat} {e : TypeId} {size n : Nat} {v : Value} {xs : List Value} (h : w.ownsRow b e size v n xs) (hb : b' ≤ b) : w.ownsRow b' e size v n xs := by
  refine ⟨h.1, ?_⟩
  rcases h.2 with h1 | ⟨g, cap, cur, e1, h2, rest⟩
  · exact .inl h1
  · exact .inr ⟨g, cap, cur, e1, by omega, rest⟩
theorem sndL_len (R : List Pl) (t : Int) : (sndL R t).length ≤ R.length := by
  unfold sndL; rw [List.length_map]; exact List.length_filter_le _ _
theorem placeL_ix : ∀ (ps : List Prt) (i : Nat) (e : Int) (k : Nat) (h : k < (placeL ps i e).length), (placeL ps i e)[k].ix = ((i + k : Nat) : Int) := by
  intro ps
  induction ps with
  | nil => intro i e k h; simp [placeL] at h
  | cons x xs ih =>
    intro i e k h
    cases k with
    | zero => simp [placeL]
    | succ k =>
      have := ih (i + 1) (e + x.gp + (x.to - x.fr)) k (by simpa [placeL] using h)
      simp only [placeL, List.getElem_cons_succ]
      rw [this]; omega

theorem placeL_ix' (ps : List Prt) (R : List Pl) (hR : placeL ps 0 0 = R) (k : Nat) (h : k < R.length) : R[k].ix = (k : Int) := by
  subst hR
  simpa using placeL_ix ps 0 0 k h

set_option maxRecDepth 100000 in
set_option maxHeartbeats 8000000 in
theorem refSources_any (B : Nat) (A : Option Addr) (n c : Nat) (ps : List Prt) (t : Int) (w : World) (h0 : RP w B A n ps) (hB : B ≤ w.heap.size) (h32 : ps.length ≤ 32) (hp : ∀ p ∈ ps, PrOk p) (ht0 : -1000000 ≤ t) (ht1 : t ≤ 1000000) :
    Calls Try.prog 48 #[.slice A n c, .int .i64 t] w (SrcPost w (sndL (placeL ps 0 0) t)) := by
  have G := Lib.hid (h0.more hB)
  obtain ⟨hn, -⟩ := h0
  have HN := Lib.hid hn
  have n32 : n ≤ 32 := by omega
  have HP := Lib.hid hp
  have H32 := Lib.hid h32
  have HRL : Hid ((placeL ps 0 0).length = n) := Lib.hid (by rw [placeL_length]; omega)
  clear hn hB hp h32
  have HST := Lib.hid (refStarts_any _ _ _ c ps w G.out (Nat.le_refl _) H32.out HP.out)
  have HOK : Hid (∀ q ∈ placeL ps 0 0, PlOk q) := Lib.hid (placeL_ok ps HP.out 0 0 (by have := H32.out; omega) (by have := H32.out; omega))
  obtain ⟨R, hR⟩ : ∃ R, placeL ps 0 0 = R := ⟨_, rfl⟩
  rw [hR] at HST HRL HOK ⊢
  have HIX := Lib.hid (placeL_ix' ps R hR)
  have HR := Lib.hid hR
  clear hR
  obtain ⟨i0, hi0, hz0, hz1, hz2⟩ := info_parts info_src
  have HI0 := Lib.hid hi0
  have HZ0 := Lib.hid hz0
  have HZ1 := Lib.hid hz1
  have HZ2 := Lib.hid hz2
  clear hi0 hz0 hz1 hz2
  go_enter Try.func48, Try.ntmps48
  go_wp2_with fail
  refine HST.out.mono ?_
  rintro e w1 ⟨A1, c1, rfl, hrd, hb1⟩
  rw [HRL.out] at hrd ⊢
  have HD := Lib.hid hrd
  have HB1 := Lib.hid hb1
  clear hrd hb1 HST
  go_wp2
  go_loopw [5, 8] (fun v i wr => ∃ k : Nat, k ≤ n ∧ i = .int .i64 k ∧ wr.ownsRow w1.heap.size 36 3 v (sndL (R.take k) t).length (srcCells (sndL (R.take k) t)) ∧ Hid (Below w1.heap.size w1 wr)) (fun _ i wr => n - (intOf i).toNat)
  case atStart => exact ⟨0, Nat.zero_le _, rfl, World.ownsRow_nil w1 w1.heap.size 36 3, Lib.hid (Below.refl _ _)⟩
  case round =>
    obtain ⟨k, hk, rfl, ho, HW⟩ := hrel
    obtain ⟨a1, cA, rfl, -⟩ := own_reads ho
    have HO := Lib.hid ho
    clear ho
    have HB := Lib.hid (HB1.out.trans (HW.out.mono HB1.out.size))
    have zz := HW.out.size
    have zz0 := HB1.out.size
    by_cases hlt : k < n
    · have hkp : k < ps.length := by have := HN.out; omega
      have hkR : k < R.length := by have := HRL.out; omega
      obtain ⟨ad, hA, hbad, _⟩ := (G.out.2.2 (by omega))
      obtain ⟨ao, hAo, hbao, _⟩ := (HD.out.2 (by omega))
      have HBO := Lib.hid (And.intro hbao hbad)
      clear hbao hbad
      obtain rfl := hA
      obtain rfl := hAo
      obtain ⟨st, hst⟩ : ∃ st, st = (R[k]'hkR).st := ⟨_, rfl⟩
      have y0 := st_cell (HD.out.below HW.out (Nat.le_refl _)) hkR hst
      obtain ⟨p, hpp⟩ : ∃ p, p = ps[k]'hkp := ⟨_, rfl⟩
      obtain ⟨p0, p1, p2, p3, p4, p5, p6⟩ := (G.out.below HB.out (Nat.le_refl _)).cells hkp hpp
      have hop : PrOk p := hpp ▸ HP.out _ (List.getElem_mem hkp)
      obtain ⟨-, oq1, oq2⟩ := HOK.out _ (List.getElem_mem hkR)
      rw [← hst] at oq1 oq2
      obtain ⟨lp, hlp⟩ : ∃ x, x = p.to - p.fr := ⟨_, rfl⟩
      have LP := Lib.hid (fun W => refLong_b hlp hop W)
      obtain ⟨_, _, _, _, _⟩ := hop
      have l1 : 0 < lp ∧ lp ≤ 4096 := by omega
      obtain ⟨_, _⟩ := l1
      obtain ⟨e3, -⟩ := placeL_p ps R HR.out k hkp hkR
      have HSB : Hid (sndB t (R[k]'hkR) = (decide (st ≤ t) && decide (t < st + lp))) := Lib.hid (by unfold sndB Pl.end_; rw [e3, ← hst, hlp, hpp])
      have HSN := Lib.hid (sndL_snoc R t k hkR)
      have HSR : Hid (src (R[k]'hkR, t - (R[k]'hkR).st) = [.int .i64 k, .int .i64 p.tk, .int .i64 (p.fr + t - st)]) := Lib.hid (by
        unfold src
        have := HIX.out k hkR
        simp only [this, e3, ← hst, ← hpp]
        rw [show p.fr + (t - st) = p.fr + t - st from by omega])
      have HPP := Lib.hid hpp
      have HST := Lib.hid hst
      have HLEN : Hid ((sndL (R.take k) t).length ≤ k) := Lib.hid (by have := sndL_len (R.take k) t; rw [List.length_take] at this; omega)
      clear hlp hpp hst e3
      obtain ⟨qe, hqe⟩ : ∃ x, st + lp = x := ⟨_, rfl⟩
      have wlp : IntKind.i64.wrap (st + lp) = qe := by rw [hqe]; exact IntWalk.i64_in _ (by omega)
      rw [hqe] at HSB
      have hqs : st < qe := by omega
      have HQQ := Lib.hid hqe
      obtain ⟨d, hd⟩ : ∃ d, (sndL (R.take k) t).length = d := ⟨_, rfl⟩
      rw [hd] at HLEN HO ⊢
      have HDL := Lib.hid hd
      have hd32 : d ≤ 32 := by have := HLEN.out; omega
      have y0 := Lat.cell y0
      have p0 := Lat.cell p0
      have p1 := Lat.cell p1
      have p2 := Lat.cell p2
      have p3 := Lat.cell p3
      have p4 := Lat.cell p4
      have p5 := Lat.cell p5
      have p6 := Lat.cell p6
      have hkn : (k : Int) < (n : Int) := by omega
      have hk0 : (0 : Int) ≤ (k : Int) := by omega
      clear hqe hd
      by_cases c1 : st ≤ t
      · by_cases c2 : t < qe
        · have HSB1 : Hid (sndB t (R[k]'hkR) = true) := Lib.hid (by rw [HSB.out, decide_eq_true c1, decide_eq_true c2]; rfl)
          go_wp2
          refine wp_region_lat (by kernel_rfl) (by kernel_rfl) ?_
          repeat (go_big_quiet_step ((with_reducible exact Calls.lat (LP.out _))))
          refine wpQuiet_nil ?_
          intro w2 hw'
          have hb2 := lat_out hw'
          have y1 := Lat.to_ y0 hb2
          have r0 := Lat.to_ p0 hb2
          have r1 := Lat.to_ p1 hb2
          have HW2 : Hid (Below w1.heap.size w1 w2) := Lib.hid (HW.out.trans (hb2.mono HW.out.size))
          have HO := Lib.hid (own_below HO.out hb2)
          have zz2 := HW2.out.size
          clear hw' hb2 y0 p0 p1 p2 p3 p4 p5 p6 wlp
          have n0 := World.new_ne w2 _ y1
          have n1 := World.new_ne w2 _ r0
          have n2 := World.new_ne w2 _ r1
          have ws1 : IntKind.i64.wrap (p.fr + t) = p.fr + t := IntWalk.i64_in _ (by omega)
          have ws2 : IntKind.i64.wrap (p.fr + t - st) = p.fr + t - st := IntWalk.i64_in _ (by omega)
          have HA : Hid (w2.ownsRow w1.heap.size 36 3 (.slice a1 d cA) d (srcCells (sndL (R.take k) t))) := HO
          have hmx : d + 1 ≤ maxLen := by unfold maxLen; omega
          have hby : (d + 1) * 24 ≤ 140737488355328 := by omega
          have hbs : w1.heap.size ≤ (w2.drew.alloc (.cells #[.int .i64 k, .int .i64 p.tk, .int .i64 (p.fr + t - st)] 36)).heap.size := by simp; omega
          have hone : ∀ u ∈ [Value.int .i64 k, .int .i64 p.tk, .int .i64 (p.fr + t - st)], u.oneCell' = true := by
            intro u hu
            simp only [List.mem_cons, List.not_mem_nil, or_false] at hu
            rcases hu with rfl | rfl | rfl <;> rfl
          have HARM := Lib.hid (And.intro hmx (And.intro hby (And.intro hbs hone)))
          have hrn := reads_new3 w2.drew (.int .i64 k) (.int .i64 p.tk) (.int .i64 (p.fr + t - st)) 36
          have HRN := Lib.hid hrn
          have HNE : Hid (∀ b, b < w1.heap.size → some b ≠ (Value.slice a1 d cA).ownBlock) := Lib.hid (fun b hb e => by have := (HO.out.lt b e.symm).1; omega)
          have Y0 : Hid ((w2.drew.alloc (.cells #[.int .i64 k, .int .i64 p.tk, .int .i64 (p.fr + t - st)] 36)).cell? (ao.add k) = some (.int .i64 st)) := Lib.hid ((World.cell?_alloc_lt w2.drew _ _ (block_lt_of_cell y1)).trans y1)
          have Y1 : Hid ((w2.drew.alloc (.cells #[.int .i64 k, .int .i64 p.tk, .int .i64 (p.fr + t - st)] 36)).cell? (ad.add (k * 7)) = some (.int .i64 p.tk)) := Lib.hid ((World.cell?_alloc_lt w2.drew _ _ (block_lt_of_cell r0)).trans r0)
          have Y2 : Hid ((w2.drew.alloc (.cells #[.int .i64 k, .int .i64 p.tk, .int .i64 (p.fr + t - st)] 36)).cell? ⟨(ad.add (k * 7)).block, (ad.add (k * 7)).off + 1, none⟩ = some (.int .i64 p.fr)) := Lib.hid ((World.cell?_alloc_lt w2.drew _ _ (block_lt_of_cell r1)).trans r1)
          have HBA : Hid ((ao.add k).block < w1.heap.size ∧ (ad.add (k * 7)).block < w1.heap.size) := Lib.hid (by rw [block_of_add, block_of_add]; exact ⟨HBO.out.1, by have := HBO.out.2; omega⟩)
          clear hmx hby hbs hone hrn
          go_wp2_with fail
          go_region_held3 (fun w' => w'.cell? (ao.add k) = some (.int .i64 st) ∧ w'.cell? (ad.add (k * 7)) = some (.int .i64 p.tk) ∧ w'.cell? ⟨(ad.add (k * 7)).block, (ad.add (k * 7)).off + 1, none⟩ = some (.int .i64 p.fr)) (go_keep)
            (first | (refine step_append_any _ rfl (.tmp 40) (.tmp 60) _ rfl w1.heap.size 36 i0 _ 3 24 Try.underlying32 HI0.out HZ0.out HZ1.out HZ2.out rfl (by omega) _ d (srcCells (sndL (R.take k) t)) rfl (HA.out.drew.alloc _) _ _ 1 _ _ rfl HRN.out HARM.out.2.2.2 HARM.out.1 HARM.out.2.1 HARM.out.2.2.1 ?_; intro v' w4 hown' hgrow hblk; have HOW := Lib.hid hown'; have HGR := Lib.hid hgrow; clear hown' hgrow hblk; have q0 := HGR.out.cell Y0.out (HNE.out _ HBA.out.1); have q1 := HGR.out.cell Y1.out (HNE.out _ HBA.out.2); have q2 := HGR.out.cell Y2.out (HNE.out _ HBA.out.2)))
          have HL1 : Hid ((sndL (R.take (k + 1)) t).length = d + 1 ∧ srcCells (sndL (R.take (k + 1)) t) = srcCells (sndL (R.take k) t) ++ [.int .i64 k, .int .i64 p.tk, .int .i64 (p.fr + t - st)]) := Lib.hid (by
            rw [HSN.out, HSB1.out, if_pos rfl, srcCells_snoc, HSR.out, List.length_append, HDL.out]; exact ⟨rfl, rfl⟩)
          have HW4 : Hid (Below w1.heap.size w1 w4) := Lib.hid ((HW2.out.drew.alloc (by show _ ≤ w2.heap.size; omega) _).grown HGR.out (by simp; omega) fun j hj => (HO.out.lt j hj).1)
          clear n0 n1 n2 ws1 ws2 q0 q1 q2 y1 r0 r1
          go_wp2
          go_roundw
          case rel => exact ⟨k + 1, by omega, by go_num, by rw [HL1.out.1, HL1.out.2]; exact HOW.out, HW4⟩
          case measure => simp [intOf]; omega
        · have c2' : decide (t < qe) = false := decide_eq_false c2
          have HSB1 : Hid (sndB t (R[k]'hkR) = false) := Lib.hid (by rw [HSB.out, c2']; simp)
          have HL1 : Hid (sndL (R.take (k + 1)) t = sndL (R.take k) t) := Lib.hid (by rw [HSN.out, HSB1.out]; simp)
          go_wp2
          refine wp_region_lat (by kernel_rfl) (by kernel_rfl) ?_
          repeat (go_big_quiet_step ((with_reducible exact Calls.lat (LP.out _))))
          refine wpQuiet_nil ?_
          intro w2 hw'
          have hb2 := lat_out hw'
          have HW2 : Hid (Below w1.heap.size w1 w2) := Lib.hid (HW.out.trans (hb2.mono HW.out.size))
          have HO := Lib.hid (own_below HO.out hb2)
          clear hw' hb2 y0 p0 p1 p2 p3 p4 p5 p6 wlp
          go_wp2
          go_roundw
          case rel => exact ⟨k + 1, by omega, by go_num, by rw [HL1.out, HDL.out]; exact HO.out, HW2⟩
          case measure => simp [intOf]; omega
      · have c1' : decide (st ≤ t) = false := decide_eq_false c1
        have HSB1 : Hid (sndB t (R[k]'hkR) = false) := Lib.hid (by rw [HSB.out, c1']; rfl)
        have HL1 : Hid (sndL (R.take (k + 1)) t = sndL (R.take k) t) := Lib.hid (by rw [HSN.out, HSB1.out]; simp)
        go_wp2
        refine wp_region_lat (by kernel_rfl) (by kernel_rfl) ?_
        repeat (go_big_quiet_step (fail))
        refine wpQuiet_nil ?_
        intro w2 hw'
        have hb2 := lat_out hw'
        have HW2 : Hid (Below w1.heap.size w1 w2) := Lib.hid (HW.out.trans (hb2.mono HW.out.size))
        have HO := Lib.hid (own_below HO.out hb2)
        clear hw' hb2 y0 p0 p1 p2 p3 p4 p5 p6 wlp
        go_wp2
        go_roundw
        case rel => exact ⟨k + 1, by omega, by go_num, by rw [HL1.out, HDL.out]; exact HO.out, HW2⟩
        case measure => simp [intOf]; omega
    · have HTK : Hid (R.take k = R) := Lib.hid (List.take_of_length_le (by have := HRL.out; omega))
      rw [HTK.out] at HO
      have HBB : Hid (w.heap.size ≤ w1.heap.size) := Lib.hid zz0
      obtain ⟨v, hv⟩ : ∃ v, v = Value.slice a1 (sndL (R.take k) t).length cA := ⟨_, rfl⟩
      rw [HTK.out] at hv
      rw [← hv] at HO
      have HV := Lib.hid hv
      have HFIN : Hid (wr.ownsRow w.heap.size 36 3 v (sndL R t).length (srcCells (sndL R t))) := Lib.hid (own_base HO.out HBB.out)
      clear hv
      go_wp2
      go_ret
      exact ⟨v, by rw [HV.out, HTK.out]; rfl, HFIN.out, HB.out⟩
end Go.Proofs.Ytbcahkklhdnboaa
