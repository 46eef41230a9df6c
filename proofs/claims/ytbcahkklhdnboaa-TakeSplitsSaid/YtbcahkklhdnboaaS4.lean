/-
  Contract of the document's Split.
-/
import Derived.Test.YtbcahkklhdnboaaS2
import Derived.Test.YtbcahkklhdnboaaS3
namespace Go.Proofs.Ytbcahkklhdnboaa
open Go.RowKit

/-- What is in front, and what is behind, after k parts. -/
def fL (m : Nat) (ps : List Prt) (k : Nat) : List Prt := ps.take (min k m)
def sL (m : Nat) (g : Int) (ps : List Prt) (k : Nat) : List Prt := adj g ((ps.take k).drop m)
theorem fL_lt (m : Nat) (ps : List Prt) (k : Nat) (h : k < ps.length) (hm : k < m) : fL m ps (k + 1) = fL m ps k ++ [ps[k]] := by
  unfold fL
  rw [show min (k + 1) m = k + 1 from by omega, show min k m = k from by omega, List.take_succ_eq_append_getElem h]
theorem fL_ge (m : Nat) (ps : List Prt) (k : Nat) (hm : m ≤ k) : fL m ps (k + 1) = fL m ps k := by
  unfold fL
  rw [show min (k + 1) m = m from by omega, show min k m = m from by omega]
theorem sL_lt (m : Nat) (g : Int) (ps : List Prt) (k : Nat) (hm : k < m) : sL m g ps (k + 1) = sL m g ps k := by
  unfold sL
  rw [List.drop_eq_nil_of_le (by rw [List.length_take]; omega), List.drop_eq_nil_of_le (by rw [List.length_take]; omega)]
theorem sL_eq (g : Int) (ps : List Prt) (k : Nat) (h : k < ps.length) : sL k g ps (k + 1) = sL k g ps k ++ [{ ps[k] with gp := g }] := by
  unfold sL
  rw [List.take_succ_eq_append_getElem h, List.drop_append_of_le_length (by rw [List.length_take]; omega), List.drop_eq_nil_of_le (by rw [List.length_take]; omega)]
  rfl
theorem sL_gt (m : Nat) (g : Int) (ps : List Prt) (k : Nat) (h : k < ps.length) (hm : m < k) : sL m g ps (k + 1) = sL m g ps k ++ [ps[k]] := by
  unfold sL
  rw [List.take_succ_eq_append_getElem h, List.drop_append_of_le_length (by rw [List.length_take]; omega), adj_snoc _ _ _ (by rw [List.length_drop, List.length_take]; omega)]
theorem prtCells_snoc (l : List Prt) (p : Prt) : prtCells (l ++ [p]) = prtCells l ++ prt p := by simp [prtCells]
theorem reads_new7 (w : World) (a0 a1 a2 a3 a4 a5 a6 : Value) (t : TypeId) : Reads (w.alloc (.cells #[a0, a1, a2, a3, a4, a5, a6] t)) (w.heap.size + 1) 7 (some ⟨w.heap.size, 0, none⟩) 1 [a0, a1, a2, a3, a4, a5, a6] :=
  ⟨rfl, fun _ => ⟨_, rfl, by show w.heap.size < _; omega, nine_new w [a0, a1, a2, a3, a4, a5, a6] t⟩⟩
theorem reads_new7' (w : World) (o : Obj) (a0 a1 a2 a3 a4 a5 a6 : Value) (t : TypeId) : Reads ((w.alloc o).alloc (.cells #[a0, a1, a2, a3, a4, a5, a6] t)) (w.heap.size + 2) 7 (some ⟨w.heap.size + 1, 0, none⟩) 1 [a0, a1, a2, a3, a4, a5, a6] := by
  have := reads_new7 (w.alloc o) a0 a1 a2 a3 a4 a5 a6 t
  rwa [World.size_alloc] at this
theorem apart_new {v v' : Value} {x : Option Nat} {g : Nat} (h : v.ownBlock = none ∨ v.ownBlock ≠ x) (hl : ∀ b, v.ownBlock = some b → b < g) (hn : v'.ownBlock = x ∨ v'.ownBlock = some g) : v.ownBlock = none ∨ v.ownBlock ≠ v'.ownBlock := by
  rcases hn with e | e
  · rw [e]; exact h
  · rw [e]
    cases hv : v.ownBlock with
    | none => exact .inl rfl
    | some b => right; have := hl b hv; simp; omega
theorem apart_sym {v v' : Value} (h : v.ownBlock = none ∨ v.ownBlock ≠ v'.ownBlock) : v'.ownBlock = none ∨ v'.ownBlock ≠ v.ownBlock := by
  rcases h with e | e
  · rw [e]; cases v'.ownBlock <;> simp
  · exact .inr (Ne.symm e)

set_option maxRecDepth 100000 in
set_option maxHeartbeats 16000000 in
theorem refSplit_any (B : Nat) (A A' : Option Addr) (n c n' c' : Nat) (l : List TV) (ps : List Prt) (t : Int) (w : World) (h0 : RT w B A n l) (g0 : RP w B A' n' ps) (hB : B ≤ w.heap.size)
    (hl : n ≤ 9223372036854775807) (hl' : n' ≤ 9223372036854775807) (hs : TSm l) (hi : I64t l) :
    Calls Try.prog 30 #[.slice A n c, .slice A' n' c', .int .i64 t] w (SpPost w (spEr l ps t) (spF l ps t) (spS l ps t)) := by
  have H := Lib.hid (h0.more hB)
  have G := Lib.hid (g0.more hB)
  have HS := Lib.hid hs
  have HI := Lib.hid hi
  obtain ⟨hn, -⟩ := g0
  have HN := Lib.hid hn
  clear hB hs h0 hn hi
  have HST := Lib.hid (refStartsAll_any _ _ _ _ c _ c' l ps w H.out G.out (Nat.le_refl _) hl hl' HS.out HI.out)
  by_cases hc : ckP l ps = 0
  · have HC := Lib.hid hc
    obtain ⟨z1, z2, z3, z4⟩ := ckP_zero l ps hc
    have HPR : Hid (∀ p ∈ ps, PrOk p) := Lib.hid (fun p hp => prOk_of l z1 p (List.all_eq_true.1 z3 p hp))
    have HOK : Hid (∀ q ∈ placeL ps 0 0, PlOk q) := Lib.hid (placeL_ok ps HPR.out 0 0 (by omega) (by omega))
    have HRL : Hid ((placeL ps 0 0).length = n') := Lib.hid (by rw [placeL_length]; exact HN.out.symm)
    have n32 : n' ≤ 32 := by have := HN.out; omega
    have HER : Hid (spEr l ps t = if t < 0 then 3 else if lenP (placeL ps 0 0) < t then 3 else if (placeL ps 0 0).any (spB t) = true then 10 else 0) := Lib.hid (by unfold spEr; rw [if_pos hc])
    have HPC := Lib.hid (spM_iff ps _ rfl (poss_pc _ z4) t)
    have HCL := Lib.hid (cutN_le (spL t) (placeL ps 0 0))
    have HBD := Lib.hid (lenP_bd _ z4 HOK.out)
    have HSR : Hid (stsR l ps = placeL ps 0 0) := Lib.hid (by unfold stsR; rw [if_pos hc])
    clear hc z1 z2 z3 z4
    obtain ⟨R, hR⟩ : ∃ R, placeL ps 0 0 = R := ⟨_, rfl⟩
    have HFS : Hid (spF l ps t = (if spEr l ps t = 0 then ps.take (cutN (spL t) R) else []) ∧ spS l ps t = (if spEr l ps t = 0 then adj (spG R t) (ps.drop (cutN (spL t) R)) else [])) := Lib.hid (by rw [← hR]; exact ⟨rfl, rfl⟩)
    rw [hR] at HOK HRL HER HPC HCL HBD HSR
    rw [HC.out, HSR.out] at HST
    have HR := Lib.hid hR
    clear hR
    obtain ⟨er, her⟩ : ∃ er, spEr l ps t = er := ⟨_, rfl⟩
    obtain ⟨F, hF⟩ : ∃ F, spF l ps t = F := ⟨_, rfl⟩
    obtain ⟨S, hS⟩ : ∃ S, spS l ps t = S := ⟨_, rfl⟩
    have HE0 : Hid (er ≠ 0 → F = [] ∧ S = []) := Lib.hid (by rw [← her, ← hF, ← hS]; exact sp_err l ps t)
    rw [her, hF, hS] at HFS ⊢
    rw [her] at HER
    clear her hF hS
    obtain ⟨m, hm⟩ : ∃ m, cutN (spL t) R = m := ⟨_, rfl⟩
    rw [hm] at HFS HPC HCL
    have HM := Lib.hid hm
    clear hm
    obtain ⟨g, hg⟩ : ∃ g, spG R t = g := ⟨_, rfl⟩
    rw [hg] at HFS
    have HGG := Lib.hid hg
    clear hg
    obtain ⟨en, hen⟩ : ∃ en, lenP R = en := ⟨_, rfl⟩
    rw [hen] at HER HBD
    have HEN := Lib.hid hen
    clear hen
    go_enter Try.func30, Try.ntmps30
    go_wp2_with fail
    refine HST.out.mono ?_
    rintro e w1 ⟨A1, c1, rfl, hrd, hb1⟩
    rw [HRL.out] at hrd ⊢
    rw [HEN.out]
    have HD := Lib.hid hrd
    have HB1 := Lib.hid hb1
    clear hrd hb1 HST
    obtain ⟨e0, e4⟩ : 0 ≤ en ∧ en ≤ 4096 := HBD.out
    by_cases t0 : t < 0
    · have t0' : decide (t < 0) = true := decide_eq_true t0
      have HEX : Hid (er = 3) := Lib.hid (by rw [HER.out, if_pos t0])
      go_wp2
      go_ret3
      rw [← HEX.out]
      exact sp_nil (HE0.out (by rw [HEX.out]; omega)).1 (HE0.out (by rw [HEX.out]; omega)).2 HB1.out
    have t0' : decide (t < 0) = false := decide_eq_false t0
    have HER : Hid (er = if en < t then 3 else if R.any (spB t) = true then 10 else 0) := Lib.hid (by rw [HER.out, if_neg t0])
    by_cases t1 : en < t
    · have HEX : Hid (er = 3) := Lib.hid (by rw [HER.out, if_pos t1])
      go_wp2
      go_ret3
      rw [← HEX.out]
      exact sp_nil (HE0.out (by rw [HEX.out]; omega)).1 (HE0.out (by rw [HEX.out]; omega)).2 HB1.out
    have t1' : decide (en < t) = false := decide_eq_false t1
    have HER : Hid (er = if R.any (spB t) = true then 10 else 0) := Lib.hid (by rw [HER.out, if_neg t1])
    obtain ⟨i0, hi0, hz0, hz1, hz2⟩ := info_parts info_prt
    have HI0 := Lib.hid hi0
    have HZ0 := Lib.hid hz0
    have HZ1 := Lib.hid hz1
    have HZ2 := Lib.hid hz2
    clear hi0 hz0 hz1 hz2
    go_wp2
    go_loopw [12, 13, 14] (fun v v' i wr => ∃ k : Nat, k ≤ n' ∧ i = .int .i64 k ∧ wr.ownsRow w1.heap.size 53 7 v (min k m) (prtCells (fL m ps k)) ∧ wr.ownsRow w1.heap.size 53 7 v' (k - m) (prtCells (sL m g ps k)) ∧
        Hid (v.ownBlock = none ∨ v.ownBlock ≠ v'.ownBlock) ∧ Hid (Below w1.heap.size w1 wr) ∧ Hid ((R.take k).any (spB t) = false)) (fun _ _ i wr => n' - (intOf i).toNat)
    case atStart => exact ⟨0, Nat.zero_le _, rfl, by simpa [fL, prtCells] using World.ownsRow_nil w1 w1.heap.size 53 7, by simpa [sL, adj, prtCells] using World.ownsRow_nil w1 w1.heap.size 53 7, Lib.hid (.inl rfl), Lib.hid (Below.refl _ _), Lib.hid rfl⟩
    case round =>
      obtain ⟨k, hk, rfl, ho1, ho2, HAP, HW, hv⟩ := hrel
      obtain ⟨a1, cA, rfl, -⟩ := own_reads ho1
      obtain ⟨a2, cB, rfl, -⟩ := own_reads ho2
      have HO1 := Lib.hid ho1
      have HO2 := Lib.hid ho2
      clear ho1 ho2
      have HB := Lib.hid (HB1.out.trans (HW.out.mono HB1.out.size))
      have zz := HW.out.size
      have zz0 := HB1.out.size
      by_cases hlt : k < n'
      · have hkp : k < ps.length := by have := HN.out; omega
        have hkR : k < R.length := by have := HRL.out; omega
        obtain ⟨ad, hA, _⟩ := (G.out.2.2 (by omega))
        obtain ⟨ao, hAo, _⟩ := (HD.out.2 (by omega))
        obtain rfl := hA
        obtain rfl := hAo
        obtain ⟨st, hst⟩ : ∃ st, st = (R[k]'hkR).st := ⟨_, rfl⟩
        have y0 := st_cell (HD.out.below HW.out (Nat.le_refl _)) hkR hst
        obtain ⟨p, hpp⟩ : ∃ p, p = ps[k]'hkp := ⟨_, rfl⟩
        obtain ⟨p0, p1, p2, p3, p4, p5, p6⟩ := (G.out.below HB.out (Nat.le_refl _)).cells hkp hpp
        have hop : PrOk p := hpp ▸ HPR.out _ (List.getElem_mem hkp)
        obtain ⟨-, oq1, oq2⟩ := HOK.out _ (List.getElem_mem hkR)
        rw [← hst] at oq1 oq2
        obtain ⟨lp, hlp⟩ : ∃ x, x = p.to - p.fr := ⟨_, rfl⟩
        have LP := Lib.hid (fun W => refLong_b hlp hop W)
        obtain ⟨_, _, _, _, _⟩ := hop
        have l1 : 0 < lp ∧ lp ≤ 4096 := by omega
        obtain ⟨_, _⟩ := l1
        obtain ⟨e3, -⟩ := placeL_p ps R HR.out k hkp hkR
        have HQE : Hid ((R[k]'hkR).end_ = st + lp) := Lib.hid (by unfold Pl.end_; rw [e3, ← hst, hlp, hpp])
        have HSP : Hid (spB t (R[k]'hkR) = (decide (st < t) && decide (t < st + lp))) := Lib.hid (by rw [spB, HQE.out, hst])
        have HSL : Hid (decide (st + lp ≤ t) = decide (k < m)) := Lib.hid (by have := HPC.out k hkR; rw [spL, HQE.out] at this; exact this)
        have HTK := Lib.hid (any_take R (spB t) k hkR)
        have HPP := Lib.hid hpp
        have HST := Lib.hid hst
        clear hlp hpp hst e3
        obtain ⟨qe, hqe⟩ : ∃ x, st + lp = x := ⟨_, rfl⟩
        have wlp : IntKind.i64.wrap (st + lp) = qe := by rw [hqe]; exact IntWalk.i64_in _ (by omega)
        rw [hqe] at HQE HSP HSL
        have hqs : st < qe := by omega
        have hq9 : qe ≤ 1004096 := by omega
        have HQQ := Lib.hid hqe
        have y1 := y0
        have r0 := p0
        have r1 := p1
        have r2 := p2
        have r3 := p3
        have r4 := p4
        have r5 := p5
        have r6 := p6
        have y0 := Lat.cell y0
        have p0 := Lat.cell p0
        have p1 := Lat.cell p1
        have p2 := Lat.cell p2
        have p3 := Lat.cell p3
        have p4 := Lat.cell p4
        have p5 := Lat.cell p5
        have p6 := Lat.cell p6
        have hkn : (k : Int) < (n' : Int) := by omega
        have hk0 : (0 : Int) ≤ (k : Int) := by omega
        clear hqe y1 r0 r1 r2 r3 r4 r5 r6
        go_wp2
        refine wp_region_lat (by kernel_rfl) (by kernel_rfl) ?_
        repeat (go_big_quiet_step ((with_reducible exact Calls.lat (LP.out _))))
        refine wpQuiet_nil ?_
        intro w2 hw'
        have hb2 := lat_out hw'
        have y1 := Lat.to_ y0 hb2
        have r0 := Lat.to_ p0 hb2
        have r1 := Lat.to_ p1 hb2
        have r2 := Lat.to_ p2 hb2
        have r3 := Lat.to_ p3 hb2
        have r4 := Lat.to_ p4 hb2
        have r5 := Lat.to_ p5 hb2
        have r6 := Lat.to_ p6 hb2
        clear hw'
        clear y0 p0 p1 p2 p3 p4 p5 p6 wlp
        have HW2 : Hid (Below w1.heap.size w1 w2) := Lib.hid (HW.out.trans (hb2.mono HW.out.size))
        have HO1 := Lib.hid (own_below HO1.out hb2)
        have HO2 := Lib.hid (own_below HO2.out hb2)
        have zz2 := HW2.out.size
        clear hb2
        by_cases c1 : st < t
        · have HC1 := Lib.hid (decide_eq_true c1)
          by_cases c2 : t < qe
          · have HEX : Hid (er = 10) := Lib.hid (by rw [HER.out, if_pos (any_of_get R (spB t) k hkR (by rw [HSP.out, HC1.out, decide_eq_true c2]; rfl))])
            have HB2 := Lib.hid (HB1.out.trans (HW2.out.mono zz0))
            go_wp2
            go_ret3
            rw [← HEX.out]
            exact sp_nil (HE0.out (by rw [HEX.out]; omega)).1 (HE0.out (by rw [HEX.out]; omega)).2 HB2.out
          · have c3 : qe ≤ t := by omega
            have HC2 := Lib.hid (decide_eq_false c2)
            have hkm : k < m := by have h2 := HSL.out; rw [decide_eq_true c3] at h2; exact of_decide_eq_true h2.symm
            have hmk : min k m ≤ 32 := by omega
            have HV : Hid ((R.take (k + 1)).any (spB t) = false) := Lib.hid (by rw [HTK.out, hv.out, HSP.out, HC1.out, HC2.out]; rfl)
            obtain ⟨mk, hmk'⟩ : ∃ x, min k m = x := ⟨_, rfl⟩
            rw [hmk'] at HO1 HAP hmk ⊢
            have HMK : Hid (min (k + 1) m = mk + 1 ∧ k + 1 - m = k - m) := Lib.hid (by omega)
            obtain ⟨d, hd⟩ : ∃ x, k - m = x := ⟨_, rfl⟩
            rw [hd] at HO2 HAP HMK ⊢
            have HKM := Lib.hid hkm
            clear hmk' hkm hd
            go_wp2_with (at_builtin; refine wpList_append_any _ rfl (.tmp 64) (.tmp 69) _ rfl w1.heap.size 53 i0 _ 7 56 Try.underlying23 HI0.out HZ0.out HZ1.out HZ2.out rfl (by omega) _ mk (prtCells (fL m ps k)) rfl (HO1.out.alloc _) _ _ 1 _ _ rfl (reads_new7 _ _ _ _ _ _ _ _ _) ?c1 ?c2 ?c3 ?c4 ?_)
            case c1 => exact ⟨rfl, rfl, rfl, rfl, rfl, rfl, rfl⟩
            case c2 => unfold maxLen; omega
            case c3 => omega
            case c4 => first | omega | (simp; omega)
            intro v' w4 hown' hgrow hblk
            have HO1' : Hid (w4.ownsRow w1.heap.size 53 7 v' (mk + 1) (prtCells (fL m ps (k + 1)))) := Lib.hid (by rw [fL_lt m ps k hkp HKM.out, prtCells_snoc, ← HPP.out]; exact hown')
            have HO2' := Lib.hid ((HO2.out.alloc (.cells #[.int .i64 p.tk, .int .i64 p.fr, .int .i64 p.to, .int .i64 p.gp, .int .i64 p.fi, .int .i64 p.fo, .int .i64 p.lv] 53)).kept hgrow (apart_sym HAP.out))
            have HW4 : Hid (Below w1.heap.size w1 w4) := Lib.hid ((HW2.out.alloc (by omega) _).grown hgrow (by simp; omega) fun j hj => (HO1.out.lt j hj).1)
            have HAP' : Hid (v'.ownBlock = none ∨ v'.ownBlock ≠ (Value.slice a2 d cB).ownBlock) := Lib.hid (apart_sym (apart_new (apart_sym HAP.out) (fun b hb => by have := (HO2.out.lt b hb).2; simp; omega) hblk))
            rw [← sL_lt m g ps k HKM.out] at HO2'
            clear hown' hgrow hblk
            go_wp2
            go_roundw
            case rel => exact ⟨k + 1, by omega, by go_num, by rw [HMK.out.1]; exact HO1'.out, by rw [HMK.out.2]; exact HO2'.out, HAP', HW4, HV⟩
            case measure => simp [intOf]; omega
        · have c1' : decide (st < t) = false := decide_eq_false c1
          have c3 : ¬ qe ≤ t := by omega
          have c3' : decide (qe ≤ t) = false := decide_eq_false c3
          have HC1 := Lib.hid c1'
          have hkm : m ≤ k := by have h2 := HSL.out; rw [c3'] at h2; have := of_decide_eq_false h2.symm; omega
          have HV : Hid ((R.take (k + 1)).any (spB t) = false) := Lib.hid (by rw [HTK.out, hv.out, HSP.out, HC1.out]; rfl)
          have hmm : min k m = m := by omega
          have hd32 : k - m ≤ 32 := by omega
          rw [hmm] at HO1 HAP ⊢
          obtain ⟨d, hd⟩ : ∃ x, k - m = x := ⟨_, rfl⟩
          rw [hd] at HO2 HAP hd32 ⊢
          have HMK : Hid (min (k + 1) m = m ∧ k + 1 - m = d + 1) := Lib.hid (by omega)
          have HKM : Hid (m ≤ k ∧ k - m = d) := Lib.hid ⟨hkm, hd⟩
          clear hmm hd hkm
          by_cases hd0 : d = 0
          · subst hd0
            have HKE : Hid (m = k) := Lib.hid (by have := HKM.out; omega)
            have HSG : Hid (g = st - t) := Lib.hid (by
              have h1 := HKE.out
              subst h1
              rw [← HGG.out, spG_at R t (by rw [HM.out]; exact hkR), HST.out]; simp only [HM.out])
            have y2 : (w2.alloc (.cells #[.int .i64 p.tk, .int .i64 p.fr, .int .i64 p.to, .int .i64 p.gp, .int .i64 p.fi, .int .i64 p.fo, .int .i64 p.lv] 53)).cell? (ao.add k) = some (.int .i64 st) := (World.cell?_alloc_lt w2 _ _ (block_lt_of_cell y1)).trans y1
            go_wp2_with (at_builtin; refine wpList_append_any _ rfl (.tmp 85) (.tmp 87) _ rfl w1.heap.size 53 i0 _ 7 56 Try.underlying23 HI0.out HZ0.out HZ1.out HZ2.out rfl (by omega) _ 0 (prtCells (sL m g ps k)) rfl ((HO2.out.alloc _).alloc _) _ _ 1 _ _ rfl (reads_new7' _ _ _ _ _ _ _ _ _ _) ?d1 ?d2 ?d3 ?d4 ?_)
            case d1 => exact ⟨rfl, rfl, rfl, rfl, rfl, rfl, rfl⟩
            case d2 => unfold maxLen; omega
            case d4 => first | omega | (simp; omega)
            intro v' w4 hown' hgrow hblk
            have HO2' : Hid (w4.ownsRow w1.heap.size 53 7 v' (0 + 1) (prtCells (sL m g ps (k + 1)))) := Lib.hid (by have hke := HKE.out; subst hke; rw [sL_eq g ps m hkp, prtCells_snoc, ← HPP.out, HSG.out]; rw [← HSG.out] at hown' ⊢; exact hown')
            have HO1' := Lib.hid (((HO1.out.alloc (.cells #[.int .i64 p.tk, .int .i64 p.fr, .int .i64 p.to, .int .i64 (st - t), .int .i64 p.fi, .int .i64 p.fo, .int .i64 p.lv] 53)).alloc (.cells #[.int .i64 p.tk, .int .i64 p.fr, .int .i64 p.to, .int .i64 (st - t), .int .i64 p.fi, .int .i64 p.fo, .int .i64 p.lv] 53)).kept hgrow HAP.out)
            have HW4 : Hid (Below w1.heap.size w1 w4) := Lib.hid (((HW2.out.alloc (by omega) _).alloc (by simp; omega) _).grown hgrow (by simp; omega) fun j hj => (HO2.out.lt j hj).1)
            have HAP' : Hid ((Value.slice a1 m cA).ownBlock = none ∨ (Value.slice a1 m cA).ownBlock ≠ v'.ownBlock) := Lib.hid (apart_new HAP.out (fun b hb => by have := (HO1.out.lt b hb).2; omega) hblk)
            rw [← fL_ge m ps k HKM.out.1] at HO1'
            clear hown' hgrow hblk
            go_wp2
            go_roundw
            case rel => exact ⟨k + 1, by omega, by go_num, by rw [HMK.out.1]; exact HO1'.out, by rw [HMK.out.2]; exact HO2'.out, HAP', HW4, HV⟩
            case measure => simp [intOf]; omega
          · have hd1 : ((d : Int) == 0) = false := beq_eq_false_iff_ne.2 (by omega)
            have HDD := Lib.hid hd0
            clear hd0
            go_wp2_with (at_builtin; refine wpList_append_any _ rfl (.tmp 85) (.tmp 87) _ rfl w1.heap.size 53 i0 _ 7 56 Try.underlying23 HI0.out HZ0.out HZ1.out HZ2.out rfl (by omega) _ d (prtCells (sL m g ps k)) rfl ((HO2.out.alloc _).alloc _) _ _ 1 _ _ rfl (reads_new7' _ _ _ _ _ _ _ _ _ _) ?f1 ?f2 ?f3 ?f4 ?_)
            case f1 => exact ⟨rfl, rfl, rfl, rfl, rfl, rfl, rfl⟩
            case f2 => unfold maxLen; omega
            case f3 => omega
            case f4 => first | omega | (simp; omega)
            intro v' w4 hown' hgrow hblk
            have HO2' : Hid (w4.ownsRow w1.heap.size 53 7 v' (d + 1) (prtCells (sL m g ps (k + 1)))) := Lib.hid (by rw [sL_gt m g ps k hkp (by have := HKM.out; have := HDD.out; omega), prtCells_snoc, ← HPP.out]; exact hown')
            have HO1' := Lib.hid (((HO1.out.alloc (.cells #[.int .i64 p.tk, .int .i64 p.fr, .int .i64 p.to, .int .i64 p.gp, .int .i64 p.fi, .int .i64 p.fo, .int .i64 p.lv] 53)).alloc (.cells #[.int .i64 p.tk, .int .i64 p.fr, .int .i64 p.to, .int .i64 p.gp, .int .i64 p.fi, .int .i64 p.fo, .int .i64 p.lv] 53)).kept hgrow HAP.out)
            have HW4 : Hid (Below w1.heap.size w1 w4) := Lib.hid (((HW2.out.alloc (by omega) _).alloc (by simp; omega) _).grown hgrow (by simp; omega) fun j hj => (HO2.out.lt j hj).1)
            have HAP' : Hid ((Value.slice a1 m cA).ownBlock = none ∨ (Value.slice a1 m cA).ownBlock ≠ v'.ownBlock) := Lib.hid (apart_new HAP.out (fun b hb => by have := (HO1.out.lt b hb).2; omega) hblk)
            rw [← fL_ge m ps k HKM.out.1] at HO1'
            clear hown' hgrow hblk
            go_wp2
            go_roundw
            case rel => exact ⟨k + 1, by omega, by go_num, by rw [HMK.out.1]; exact HO1'.out, by rw [HMK.out.2]; exact HO2'.out, HAP', HW4, HV⟩
            case measure => simp [intOf]; omega
      · have hkn : k = n' := by omega
        subst hkn
        have HEX : Hid (er = 0) := Lib.hid (by rw [HER.out, if_neg (by have h1 := hv.out; rw [List.take_of_length_le (by have := HRL.out; omega)] at h1; rw [h1]; simp)])
        have HFL : Hid (F = ps.take m ∧ S = adj g (ps.drop m)) := Lib.hid (by have := HFS.out; rw [HEX.out, if_pos rfl, if_pos rfl] at this; exact this)
        have HCM : Hid (m ≤ k) := Lib.hid (by have := HCL.out; have := HRL.out; omega)
        have HF : Hid (fL m ps k = F ∧ min k m = F.length) := Lib.hid (by rw [HFL.out.1, fL, List.length_take]; have := HCM.out; have := HN.out; exact ⟨by rw [show min k m = m from by omega], by omega⟩)
        have HS2 : Hid (sL m g ps k = S ∧ k - m = S.length) := Lib.hid (by rw [HFL.out.2, sL, adj_length, List.length_drop, List.take_of_length_le (by have := HN.out; omega)]; have := HN.out; exact ⟨rfl, by omega⟩)
        rw [HF.out.1] at HO1
        rw [HS2.out.1] at HO2
        go_wp2
        go_ret3
        rw [HEX.out]
        exact sp_ok HO1.out HO2.out HF.out.2 HS2.out.2 HB.out
  · have hr : spEr l ps t = ckP l ps := by unfold spEr; rw [if_neg hc]
    obtain ⟨hF, hS⟩ := sp_err l ps t (by rw [hr]; exact hc)
    have hsr : stsR l ps = [] := by unfold stsR; rw [if_neg hc]
    rw [hF, hS, hr]
    rw [hsr] at HST
    have hc1 : (ckP l ps == 0) = false := by simpa using hc
    have hc2 : (ckP l ps != 0) = true := by simpa using hc
    clear hc hr hF hS hsr
    obtain ⟨q, hq⟩ : ∃ q, ckP l ps = q := ⟨_, rfl⟩
    rw [hq] at hc1 hc2 HST ⊢
    clear hq
    go_enter Try.func30, Try.ntmps30
    go_wp2_with fail
    refine HST.out.mono ?_
    rintro e w1 ⟨A1, c1, rfl, hrd, hb1⟩
    clear hrd
    go_wp2
    go_ret3
    exact sp_nil rfl rfl hb1
end Go.Proofs.Ytbcahkklhdnboaa
