/-
  Contract of take.Split.
-/
import Derived.Test.YtbcahkklhdnboaaS1
import Derived.Test.YtbcahkklhdnboaaCM
import Derived.Test.YtbcahkklhdnboaaQ0
import Derived.Test.YtbcahkklhdnboaaW2
namespace Go.Proofs.Ytbcahkklhdnboaa
open Go.RowKit

theorem RQ.cells {w : World} {B : Nat} {ad : Addr} {n : Nat} {l : List Pl} (h : RQ w B (some ad) n l) {k : Nat} (hk : k < l.length) {q : Pl} (hp : q = l[k]) :
    w.cell? (ad.add (k * 9)) = some (.int .i64 q.p.tk) ∧ w.cell? ⟨(ad.add (k * 9)).block, (ad.add (k * 9)).off + 1, none⟩ = some (.int .i64 q.p.fr) ∧
      w.cell? ⟨(ad.add (k * 9)).block, (ad.add (k * 9)).off + 2, none⟩ = some (.int .i64 q.p.to) ∧ w.cell? ⟨(ad.add (k * 9)).block, (ad.add (k * 9)).off + 3, none⟩ = some (.int .i64 q.p.gp) ∧
      w.cell? ⟨(ad.add (k * 9)).block, (ad.add (k * 9)).off + 4, none⟩ = some (.int .i64 q.p.fi) ∧ w.cell? ⟨(ad.add (k * 9)).block, (ad.add (k * 9)).off + 5, none⟩ = some (.int .i64 q.p.fo) ∧
      w.cell? ⟨(ad.add (k * 9)).block, (ad.add (k * 9)).off + 6, none⟩ = some (.int .i64 q.p.lv) ∧ w.cell? ⟨(ad.add (k * 9)).block, (ad.add (k * 9)).off + 7, none⟩ = some (.int .i64 q.ix) ∧
      w.cell? ⟨(ad.add (k * 9)).block, (ad.add (k * 9)).off + 8, none⟩ = some (.int .i64 q.st) := by
  obtain ⟨ad', hA, _, h⟩ := h.at_ hk
  cases hA
  rw [hp]; exact h

theorem RP.take_ {w : World} {B : Nat} {A : Option Addr} {n : Nat} {l : List Prt} (h : RP w B A n l) (m : Nat) (hm : m ≤ n) : Reads w B 7 A m (prtCells (l.take m)) := by
  obtain ⟨rfl, h⟩ := h
  refine ⟨by rw [prtCells_length, List.length_take]; omega, fun hn => ?_⟩
  obtain ⟨ad, e, hb, hc⟩ := h.2 (by omega)
  refine ⟨ad, e, hb, fun j u hu => hc j u ?_⟩
  have hcat : prtCells l = prtCells (l.take m) ++ prtCells (l.drop m) := by
    unfold prtCells; rw [← List.flatMap_append, List.take_append_drop]
  have hj : j < (prtCells (l.take m)).length := (List.getElem?_eq_some_iff.1 hu).1
  rw [hcat, List.getElem?_append_left hj, hu]
theorem RP.drop_ {w : World} {B : Nat} {A : Option Addr} {n c : Nat} {l : List Prt} (h : RP w B A n l) (m : Nat) (hm : m ≤ n) (hc : n ≤ c) :
    Reads w B 7 (if c = m then A else A.map (·.add (m * 7))) (n - m) (prtCells (l.drop m)) := by
  obtain ⟨rfl, h⟩ := h
  refine ⟨by rw [prtCells_length, List.length_drop], fun hn => ?_⟩
  obtain ⟨ad, rfl, hb, hcell⟩ := h.2 (by omega)
  rw [if_neg (by omega)]
  refine ⟨ad.add (m * 7), rfl, by rw [block_of_add]; exact hb, fun j u hu => ?_⟩
  rw [add_of_add]
  refine hcell _ u ?_
  have hcat : prtCells l = prtCells (l.take m) ++ prtCells (l.drop m) := by
    unfold prtCells; rw [← List.flatMap_append, List.take_append_drop]
  have hl : (prtCells (l.take m)).length = m * 7 := by rw [prtCells_length, List.length_take]; omega
  rw [hcat, List.getElem?_append_right (by omega), hl, show m * 7 + j - m * 7 = j from by omega, hu]
theorem prt_one (l : List Prt) : ∀ u ∈ prtCells l, u.oneCell' = true := by
  intro u hu
  obtain ⟨q, _, hq⟩ := List.mem_flatMap.1 hu
  simp only [prt, List.mem_cons, List.not_mem_nil, or_false] at hq
  rcases hq with rfl | rfl | rfl | rfl | rfl | rfl | rfl <;> rfl
theorem info_prt : (Try.prog.info? 53).map (fun i => (i.zero, i.size, i.bytes)) = some (some (.agg #[.int .i64 0, .int .i64 0, .int .i64 0, .int .i64 0, .int .i64 0, .int .i64 0, .int .i64 0]), 7, 56) := by kernel_rfl

theorem el_prts : Try.prog.elem 23 = 53 := by kernel_rfl
theorem size_prt (W : World) : (sizeOf 53).run Try.prog W = .ok 7 W := by kernel_rfl
theorem slice_to (A : Option Addr) (m n c : Nat) (h : m ≤ c) (W : World) : (Instr.slice 23 (.slice A n c) none (some (.int .i64 (m : Int))) none).run Try.prog W = .ok (.slice A m c) W := by
  rw [run_slice_h (P := Try.prog) W 23 A n c (by rw [el_prts]; exact Try.underlying23) .i64 (m : Int) (by omega) (by omega), el_prts, size_prt]
  by_cases h0 : c = 0
  · subst h0
    simp [sliced, Result.andThen]
  · have e : A.map (fun x => x.add 0) = A := by cases A <;> simp [Addr.add]
    simp [sliced, Result.andThen, h0, e]
theorem slice_from (A : Option Addr) (m n c : Nat) (h : m ≤ n) (W : World) : (Instr.slice 23 (.slice A n c) (some (.int .i64 (m : Int))) none none).run Try.prog W = .ok (.slice (if c = m then A else A.map (·.add (m * 7))) (n - m) (c - m)) W := by
  rw [run_slice_l (P := Try.prog) W 23 A n c (by rw [el_prts]; exact Try.underlying23) .i64 (m : Int) (by omega) (by omega), el_prts, size_prt]
  simp [sliced, Result.andThen]

theorem adj_cells (g : Int) (l : List Prt) (h : 0 < l.length) : prtCells (adj g l) = (prtCells l).set 3 (.int .i64 g) := by
  cases l with
  | nil => simp at h
  | cons x xs => simp [adj, prtCells, prt]
theorem sp_ok {w w' : World} {F S : List Prt} {v1 v2 : Value} {b1 b2 : Nat} {k1 k2 : Nat} {e1 e2 : TypeId} (h1 : w'.ownsRow b1 e1 7 v1 k1 (prtCells F)) (h2 : w'.ownsRow b2 e2 7 v2 k2 (prtCells S)) (l1 : k1 = F.length) (l2 : k2 = S.length) (hb : Below w.heap.size w w') :
    SpPost w 0 F S (.returned (.tuple #[v1, v2, .int .i64 0])) w' := by
  subst l1; subst l2
  obtain ⟨A1, c1, rfl, r1⟩ := own_reads h1
  obtain ⟨A2, c2, rfl, r2⟩ := own_reads h2
  exact ⟨A1, c1, A2, c2, rfl, ⟨rfl, r1⟩, ⟨rfl, r2⟩, hb⟩

theorem pend_b {q : Pl} {en : Int} (hl : en = q.end_) (hp : PlOk q) (w : World) :
    Calls Try.prog 62 #[.agg #[.int .i64 q.p.tk, .int .i64 q.p.fr, .int .i64 q.p.to, .int .i64 q.p.gp, .int .i64 q.p.fi, .int .i64 q.p.fo, .int .i64 q.p.lv, .int .i64 q.ix, .int .i64 q.st]] w
      fun e w' => e = .returned (.int .i64 en) ∧ Below w.heap.size w w' := by
  rw [hl]; exact pend_any q w hp

set_option maxRecDepth 100000 in
set_option maxHeartbeats 8000000 in
theorem split_any (B : Nat) (A A' : Option Addr) (n c n' c' : Nat) (l : List TV) (ps : List Prt) (t : Int) (w : World) (h0 : RT w B A n l) (g0 : RP w B A' n' ps) (hB : B ≤ w.heap.size)
    (hl : n ≤ 9223372036854775807) (hl' : n' ≤ 9223372036854775807) (hc' : n' ≤ c') (hs : TSm l) :
    Calls Try.prog 29 #[.slice A n c, .slice A' n' c', .int .i64 t] w (SpPost w (spEr l ps t) (spF l ps t) (spS l ps t)) := by
  have H := Lib.hid (h0.more hB)
  have G := Lib.hid (g0.more hB)
  have HS := Lib.hid hs
  obtain ⟨hn, -⟩ := g0
  have HN := Lib.hid hn
  clear hB hs h0 hn
  by_cases hc : ckP l ps = 0
  · have HC := Lib.hid hc
    obtain ⟨z1, z2, z3, z4⟩ := ckP_zero l ps hc
    have HPR : Hid (∀ p ∈ ps, PrOk p) := Lib.hid (fun p hp => prOk_of l z1 p (List.all_eq_true.1 z3 p hp))
    have HOK : Hid (∀ q ∈ placeL ps 0 0, PlOk q) := Lib.hid (placeL_ok ps HPR.out 0 0 (by omega) (by omega))
    have H32 := Lib.hid z2
    have HRL : Hid ((placeL ps 0 0).length = n') := Lib.hid (by rw [placeL_length]; exact HN.out.symm)
    have n32 : n' ≤ 32 := by have := HN.out; omega
    have HER : Hid (spEr l ps t = if t < 0 then 3 else if lenP (placeL ps 0 0) < t then 3 else if (placeL ps 0 0).any (spB t) = true then 10 else 0) := Lib.hid (by unfold spEr; rw [if_pos hc])
    have HPC := Lib.hid (spM_iff ps _ rfl (poss_pc _ z4) t)
    have HCL := Lib.hid (cutN_le (spL t) (placeL ps 0 0))
    have HBD := Lib.hid (lenP_bd _ z4 HOK.out)
    clear hc z1 z2 z3 z4
    obtain ⟨R, hR⟩ : ∃ R, placeL ps 0 0 = R := ⟨_, rfl⟩
    have HFS : Hid (spF l ps t = (if spEr l ps t = 0 then ps.take (cutN (spL t) R) else []) ∧ spS l ps t = (if spEr l ps t = 0 then adj (spG R t) (ps.drop (cutN (spL t) R)) else [])) := Lib.hid (by rw [← hR]; exact ⟨rfl, rfl⟩)
    rw [hR] at HOK HRL HER HPC HCL HBD
    have HR := Lib.hid hR
    clear hR
    obtain ⟨er, her⟩ : ∃ er, spEr l ps t = er := ⟨_, rfl⟩
    obtain ⟨F, hF⟩ : ∃ F, spF l ps t = F := ⟨_, rfl⟩
    obtain ⟨S, hS⟩ : ∃ S, spS l ps t = S := ⟨_, rfl⟩
    have HE0 : Hid (er ≠ 0 → F = [] ∧ S = []) := Lib.hid (by rw [← her, ← hF, ← hS]; exact sp_err l ps t)
    rw [her, hF, hS] at HFS ⊢
    rw [her] at HER
    clear her hF hS
    obtain ⟨m, hm⟩ : ∃ m, cutN (spL t) R = m := ⟨_, rfl⟩
    rw [hm] at HFS HPC HCL
    have HM := Lib.hid hm
    clear hm
    go_enter Try.func29, Try.ntmps29
    go_wp2_with fail
    refine (CheckProgramme_any _ _ _ _ _ _ _ l ps _ H.out G.out (Nat.le_refl _) hl hl' HS.out).mono ?_
    rintro e w1 ⟨rfl, hb1⟩
    rw [HC.out]
    go_wp2_with fail
    refine (place_any _ _ _ _ ps _ (G.out.below hb1 (Nat.le_refl _)) hb1.size H32.out HPR.out).mono ?_
    rintro e w2 ⟨A2, c2, rfl, hq, hb2⟩
    rw [HR.out] at hq ⊢
    rw [HRL.out] at hq ⊢
    have HQ := Lib.hid hq
    have HBW : Hid (Below w.heap.size w w2) := Lib.hid (hb1.trans (hb2.mono hb1.size))
    clear hq hb1 hb2
    by_cases t0 : t < 0
    · have t0' : decide (t < 0) = true := decide_eq_true t0
      have HEX : Hid (er = 3) := Lib.hid (by rw [HER.out, if_pos t0])
      go_wp2
      go_ret3
      rw [← HEX.out]
      exact sp_nil (HE0.out (by rw [HEX.out]; omega)).1 (HE0.out (by rw [HEX.out]; omega)).2 HBW.out
    have t0' : decide (t < 0) = false := decide_eq_false t0
    obtain ⟨en, hen⟩ : ∃ en, lenP R = en := ⟨_, rfl⟩
    have HER : Hid (er = if en < t then 3 else if R.any (spB t) = true then 10 else 0) := Lib.hid (by rw [HER.out, if_neg t0, hen])
    have HEN := Lib.hid hen
    clear hen
    by_cases t1 : en < t
    · have HEX : Hid (er = 3) := Lib.hid (by rw [HER.out, if_pos t1])
      go_wp2_with fail
      refine (length_any _ _ _ _ R _ HQ.out (Nat.le_refl _) (by rw [HRL.out]; omega) HOK.out).mono ?_
      rintro e w3 ⟨rfl, hb3⟩
      rw [HEN.out]
      go_wp2
      go_ret3
      rw [← HEX.out]
      exact sp_nil (HE0.out (by rw [HEX.out]; omega)).1 (HE0.out (by rw [HEX.out]; omega)).2 (HBW.out.trans (hb3.mono HBW.out.size))
    have t1' : decide (en < t) = false := decide_eq_false t1
    have HER : Hid (er = if R.any (spB t) = true then 10 else 0) := Lib.hid (by rw [HER.out, if_neg t1])
    have e0 : 0 ≤ en ∧ en ≤ 4096 := by have := HBD.out; have := HEN.out; omega
    obtain ⟨e0, e4⟩ := e0
    go_wp2_with fail
    refine (length_any _ _ _ _ R _ HQ.out (Nat.le_refl _) (by rw [HRL.out]; omega) HOK.out).mono ?_
    rintro e w3 ⟨rfl, hb3⟩
    rw [HEN.out]
    have HQ3 := Lib.hid ((HQ.out.below hb3 (Nat.le_refl _)).more hb3.size)
    have HBW3 := Lib.hid (HBW.out.trans (hb3.mono HBW.out.size))
    clear hb3
    go_wp2_with fail
    go_loopw [11, 34] (fun v i wr => ∃ k : Nat, k ≤ n' ∧ i = .int .i64 k ∧ v = .int .i64 (min k m : Nat) ∧ Hid (Below w3.heap.size w3 wr) ∧ Hid ((R.take k).any (spB t) = false)) (fun _ i wr => n' - (intOf i).toNat)
    case atStart => exact ⟨0, Nat.zero_le _, rfl, by simp, Lib.hid (Below.refl _ _), Lib.hid rfl⟩
    case round =>
      obtain ⟨k, hk, rfl, rfl, HB, hv⟩ := hrel
      by_cases hlt : k < n'
      · have hkR : k < R.length := by have := HRL.out; omega
        obtain ⟨ad, hA, _⟩ := (HQ3.out.2.2 (by omega))
        obtain rfl := hA
        obtain ⟨q, hq⟩ : ∃ q, q = R[k]'hkR := ⟨_, rfl⟩
        have hok : PlOk q := hq ▸ HOK.out _ (List.getElem_mem hkR)
        obtain ⟨p0, p1, p2, p3, p4, p5, p6, p7, p8⟩ := (HQ3.out.below HB.out (Nat.le_refl _)).cells hkR hq
        obtain ⟨qe, hqe⟩ : ∃ x, x = q.end_ := ⟨_, rfl⟩
        have LE := Lib.hid (fun W => pend_b hqe hok W)
        have hlen : q.st < qe := by obtain ⟨⟨_, _, _, _, _⟩, _⟩ := hok; rw [hqe]; unfold Pl.end_; omega
        have HQQ := Lib.hid hq
        have HQE := Lib.hid hqe
        clear hq hqe
        obtain ⟨mk, hmk⟩ : ∃ x, x = min k m := ⟨_, rfl⟩
        rw [← hmk]
        have mk32 : mk ≤ 32 := by omega
        have HMK := Lib.hid hmk
        have HSP : Hid (spB t q = (decide (q.st < t) && decide (t < qe))) := Lib.hid (by rw [HQE.out]; rfl)
        have HSL : Hid (decide (qe ≤ t) = decide (k < m)) := Lib.hid (by have := HPC.out k hkR; rw [← HQQ.out] at this; rw [HQE.out]; exact this)
        have HTK := Lib.hid (any_take R (spB t) k hkR)
        rw [← HQQ.out] at HTK
        clear hmk
        have HBK := Lib.hid (Blk.new wr 71 #[.int .i64 q.p.tk, .int .i64 q.p.fr, .int .i64 q.p.to, .int .i64 q.p.gp, .int .i64 q.p.fi, .int .i64 q.p.fo, .int .i64 q.p.lv, .int .i64 q.ix, .int .i64 q.st])
        have zz := HB.out.size
        by_cases c1 : q.st < t
        · by_cases c2 : t < qe
          · have HEX : Hid (er = 10) := Lib.hid (by rw [HER.out, if_pos (any_of_get R (spB t) k hkR (by rw [← HQQ.out, HSP.out, decide_eq_true c1, decide_eq_true c2]; rfl))])
            go_wp2_with fail
            refine (LE.out _).mono ?_
            rintro e w4 ⟨rfl, hb4⟩
            have HB4 : Hid (Below w.heap.size w w4) := Lib.hid (((HBW3.out.trans (HB.out.mono HBW3.out.size)).alloc (by have := HBW3.out.size; omega) _).trans (hb4.mono (by have := HBW3.out.size; simp; omega)))
            clear hb4
            go_wp2
            go_ret3
            rw [← HEX.out]
            exact sp_nil (HE0.out (by rw [HEX.out]; omega)).1 (HE0.out (by rw [HEX.out]; omega)).2 HB4.out
          · have c3 : qe ≤ t := by omega
            have HC1 := Lib.hid (decide_eq_true c1)
            have HC2 := Lib.hid (decide_eq_false c2)
            have HC3 := Lib.hid (decide_eq_true c3)
            go_wp2_with fail
            refine (LE.out _).mono ?_
            rintro e w4 ⟨rfl, hb4⟩
            have hblk := HBK.out.below hb4 (by simp)
            have g0 := (hblk.cell 0).trans rfl
            have g1 := (hblk.cell 1).trans rfl
            have g2 := (hblk.cell 2).trans rfl
            have g3 := (hblk.cell 3).trans rfl
            have g4 := (hblk.cell 4).trans rfl
            have g5 := (hblk.cell 5).trans rfl
            have g6 := (hblk.cell 6).trans rfl
            have g7 := (hblk.cell 7).trans rfl
            have g8 := (hblk.cell 8).trans rfl
            have HB4 : Hid (Below w3.heap.size w3 w4) := Lib.hid ((HB.out.alloc (by omega) _).trans (hb4.mono (by simp; omega)))
            clear hb4 hblk
            go_wp2_with fail
            refine (LE.out _).mono ?_
            rintro e w5 ⟨rfl, hb5⟩
            have HB5 : Hid (Below w3.heap.size w3 w5) := Lib.hid (HB4.out.trans (hb5.mono HB4.out.size))
            clear hb5
            go_wp2
            go_roundw
            case rel => exact ⟨k + 1, by omega, by go_num, by rw [show min (k + 1) m = mk + 1 from by have h1 := HMK.out; have h2 := HSL.out; rw [HC3.out] at h2; have := of_decide_eq_true h2.symm; omega]; go_num, HB5, Lib.hid (by rw [HTK.out, hv.out, HSP.out, HC1.out, HC2.out]; rfl)⟩
            case measure => simp [intOf]; omega
        · have c1' : decide (q.st < t) = false := decide_eq_false c1
          have c3 : ¬ qe ≤ t := by omega
          have HC1 := Lib.hid (decide_eq_false c1)
          have HC3 := Lib.hid (decide_eq_false c3)
          go_wp2_with fail
          refine (LE.out _).mono ?_
          rintro e w5 ⟨rfl, hb5⟩
          have HB5 : Hid (Below w3.heap.size w3 w5) := Lib.hid ((HB.out.alloc (by omega) _).trans (hb5.mono (by simp; omega)))
          clear hb5
          go_wp2
          go_roundw
          case rel => exact ⟨k + 1, by omega, by go_num, by rw [show min (k + 1) m = mk from by have h1 := HMK.out; have h2 := HSL.out; rw [HC3.out] at h2; have := of_decide_eq_false h2.symm; omega], HB5, Lib.hid (by rw [HTK.out, hv.out, HSP.out, HC1.out]; rfl)⟩
          case measure => simp [intOf]; omega
      · have hml : m ≤ n' := by have := HCL.out; have := HRL.out; omega
        rw [show min k m = m from by omega]
        have HEX : Hid (er = 0) := Lib.hid (by rw [HER.out, if_neg (by rw [List.take_of_length_le (by have := HRL.out; omega)] at hv; rw [hv.out]; simp)])
        have hmc : m ≤ c' := by omega
        have hs1 := slice_to A' m n' c' hmc
        obtain ⟨A3, hA3⟩ : ∃ x, (if c' = m then A' else A'.map (·.add (m * 7))) = x := ⟨_, rfl⟩
        have hs2 := slice_from A' m n' c' hml
        rw [hA3] at hs2
        have HA3 := Lib.hid hA3
        clear hA3
        have ZB := HBW3.out.size
        have ZW := HB.out.size
        have HO := Lib.hid (World.ownsRow_nil wr wr.heap.size 53 7)
        have HR1 := Lib.hid ((G.out.below (HBW3.out.trans (HB.out.mono ZB)) (Nat.le_refl _)).take_ m hml)
        obtain ⟨i0, hi0, hz0, hz1, hz2⟩ := info_parts info_prt
        have HI0 := Lib.hid hi0
        have HZ0 := Lib.hid hz0
        have HZ1 := Lib.hid hz1
        have HZ2 := Lib.hid hz2
        clear hi0 hz0 hz1 hz2
        go_wp2_with (at_builtin; refine wpList_append_any _ rfl (.const (.slice none 0 0)) (.tmp 57) _ rfl wr.heap.size 53 i0 _ 7 56 Try.underlying23 HI0.out HZ0.out HZ1.out HZ2.out rfl (by omega) _ 0 [] rfl HO.out _ _ m _ (prtCells (ps.take m)) rfl HR1.out (prt_one _) ?c1 ?c2 ?c3 ?_)
        case c1 => unfold maxLen; omega
        case c2 => omega
        case c3 => exact Nat.le_refl _
        intro v1 w5 hown1 hgrow1 hblk1
        have HB5 : Hid (Below w.heap.size w w5) := Lib.hid ((HBW3.out.trans (HB.out.mono ZB)).grown hgrow1 (by omega) (by simp [Value.ownBlock]))
        have HQ5 : Hid (RQ w5 w3.heap.size A2 n' R) := Lib.hid (HQ3.out.below (HB.out.grown hgrow1 (by omega) (by simp [Value.ownBlock])) (Nat.le_refl _))
        have ZW5 : wr.heap.size ≤ w5.heap.size := hgrow1.size
        have HW1 := Lib.hid hown1
        have HW5 : Hid (∀ b, v1.ownBlock = some b → b < w5.heap.size) := Lib.hid (fun b hb => (hown1.lt b hb).2)
        have HO := Lib.hid (World.ownsRow_nil w5 w5.heap.size 53 7)
        have HR2 : Hid (Reads w5 w.heap.size 7 A3 (n' - m) (prtCells (ps.drop m))) := Lib.hid (by rw [← HA3.out]; exact (G.out.below HB5.out (Nat.le_refl _)).drop_ m hml hc')
        clear hown1 hgrow1 hblk1
        obtain ⟨d, hd⟩ : ∃ d, n' - m = d := ⟨_, rfl⟩
        rw [hd] at HR2 hs2
        have d32 : d ≤ 32 := by omega
        have HDD := Lib.hid hd
        clear hd
        go_wp2_with (at_builtin; refine wpList_append_any _ rfl (.const (.slice none 0 0)) (.tmp 61) _ rfl w5.heap.size 53 i0 _ 7 56 Try.underlying23 HI0.out HZ0.out HZ1.out HZ2.out rfl (by omega) _ 0 [] rfl HO.out _ _ d _ (prtCells (ps.drop m)) rfl HR2.out (prt_one _) ?d1 ?d2 ?d3 ?_)
        case d1 => unfold maxLen; omega
        case d2 => omega
        case d3 => exact Nat.le_refl _
        intro v2 w6 hown2 hgrow2 hblk2
        have HG2 := Lib.hid hgrow2
        have HW1 := Lib.hid (HW1.out.kept hgrow2 (by cases v1.ownBlock <;> simp [Value.ownBlock]))
        have HB6 : Hid (Below w.heap.size w w6) := Lib.hid (HB5.out.grown hgrow2 (by omega) (by simp [Value.ownBlock]))
        have HQ6 := Lib.hid (HQ5.out.below (show Below w3.heap.size w5 w6 from (Below.refl _ _).grown hgrow2 (by omega) (by simp [Value.ownBlock])) (Nat.le_refl _))
        have HW2 := Lib.hid hown2
        clear hown2 hgrow2 hblk2
        have HFL : Hid (F = ps.take m ∧ S = adj (spG R t) (ps.drop m)) := Lib.hid (by have := HFS.out; rw [HEX.out, if_pos rfl, if_pos rfl] at this; exact this)
        have HL1 : Hid (m = F.length ∧ d = S.length) := Lib.hid (by have h1 := HDD.out; have h2 := HN.out; rw [HFL.out.1, HFL.out.2, adj_length, List.length_take, List.length_drop]; omega)
        by_cases hd0 : 0 < d
        · obtain ⟨g, cap, hv, hg1, hg2⟩ := HW2.out.form hd0
          subst hv
          have hmR : m < R.length := by have := HDD.out; have := HRL.out; omega
          obtain ⟨ad, hA, _⟩ := (HQ6.out.2.2 (by have := HDD.out; omega))
          obtain rfl := hA
          obtain ⟨q, hq⟩ : ∃ q, q = R[m]'hmR := ⟨_, rfl⟩
          have hok : PlOk q := hq ▸ HOK.out _ (List.getElem_mem hmR)
          obtain ⟨p0, p1, p2, p3, p4, p5, p6, p7, p8⟩ := HQ6.out.cells hmR hq
          have hsg : spG R t = q.st - t := by rw [spG_at R t (by rw [HM.out]; exact hmR), hq]; simp only [HM.out]
          have HSG := Lib.hid hsg
          have HSTO := Lib.hid (HW2.out.stored 3 (.int .i64 (q.st - t)))
          have hc3 : w6.cell? ⟨g, 3, none⟩ = some (.int .i64 ((ps.drop m)[0]'(by have := HDD.out; have := HN.out; simp; omega)).gp) := by
            rw [HW2.out.cellAt 3 (by omega)]
            have := prtCells_at (ps.drop m) 0 (by have := HDD.out; have := HN.out; simp; omega) 3 (by omega)
            simpa [prt] using this
          have hf3 := HW2.out.frozenAt 3
          obtain ⟨o1, o2, o3⟩ := hok
          have hmn : (m : Int) < (n' : Int) := by have := HDD.out; omega
          have HGE : Hid (w5.heap.size ≤ g ∧ g < w6.heap.size) := Lib.hid ⟨hg1, hg2⟩
          clear o1 hq hsg hg1 hg2
          go_wp2
          go_ret3
          rw [HEX.out]
          refine sp_ok (b1 := wr.heap.size) (b2 := w5.heap.size) (e1 := 53) (e2 := 53) (k1 := m) (k2 := d) ?_ ?_ HL1.out.1 HL1.out.2 (HB6.out.setCell (p := ⟨g, 3, none⟩) (by have := HGE.out; show w.heap.size ≤ g; omega) _)
          · rw [HFL.out.1]
            exact HW1.out.kept HSTO.out.2 (by
              cases hvb : v1.ownBlock with
              | none => exact .inl rfl
              | some b => right; have := HW5.out b hvb; have := HGE.out; simp; omega)
          · rw [HFL.out.2, HSG.out, adj_cells _ _ (by have := HDD.out; have := HN.out; simp; omega)]
            exact HSTO.out.1
        · have hd00 : d = 0 := by omega
          subst hd00
          obtain ⟨Av, cv, hv, -⟩ := own_reads HW2.out
          subst hv
          go_wp2
          go_ret3
          rw [HEX.out]
          have hdr : ps.drop m = [] := List.drop_eq_nil_of_le (by have := HDD.out; have := HN.out; omega)
          refine sp_ok (b1 := wr.heap.size) (b2 := w5.heap.size) (e1 := 53) (e2 := 53) (k1 := m) (k2 := 0) ?_ ?_ HL1.out.1 HL1.out.2 HB6.out
          · rw [HFL.out.1]; exact HW1.out
          · rw [HFL.out.2, hdr]; rw [hdr] at HW2; exact HW2.out
  · have hr : spEr l ps t = ckP l ps := by unfold spEr; rw [if_neg hc]
    obtain ⟨hF, hS⟩ := sp_err l ps t (by rw [hr]; exact hc)
    rw [hF, hS, hr]
    have hc1 : (ckP l ps == 0) = false := by simpa using hc
    have hc2 : (ckP l ps != 0) = true := by simpa using hc
    clear hc hr hF hS
    obtain ⟨q, hq⟩ : ∃ q, q = ckP l ps := ⟨_, rfl⟩
    rw [← hq] at hc1 hc2 ⊢
    have HQ := Lib.hid hq
    clear hq
    go_enter Try.func29, Try.ntmps29
    go_wp2_with fail
    refine (CheckProgramme_any _ _ _ _ _ _ _ l ps _ H.out G.out (Nat.le_refl _) hl hl' HS.out).mono ?_
    rintro e w1 ⟨rfl, hb1⟩
    rw [← HQ.out]
    go_wp2
    go_ret3
    exact sp_nil rfl rfl hb1
end Go.Proofs.Ytbcahkklhdnboaa
