/-
  The iterator of the edges of a sample, where a round may say 'no more'.
-/
import Derived.Test.YtgdkcbnpgpjnbaaLM
import Derived.Test.YtgdkcbnpgpjnbaaL3
namespace Go.Proofs.Ytgdkcbnpgpjnbaa
open Go.RowKit Go.Shelf
attribute [local go_sem] Oper.semAt_some

abbrev encE (x : Ed) : Array Value := #[edCells x]

set_option maxRecDepth 100000 in
set_option maxHeartbeats 8000000 in
theorem edgesAt1_cut (mm bs bi : Nat) (gg : Nat → Prop) (B : Nat) (A : Option Addr) (n c : Nat) (b : Bk) (P : List Smp) (i : Nat) (W0 : World) (hm : 1 ≤ mm)
    (k1 : Blk W0 bs 69 #[.int .i64 b.per, .int .i64 b.rim, .int .i64 b.core, .int .i64 b.land, .int .i64 b.slow, .int .i64 b.fast, .slice A n c]) (k2 : Blk W0 bi 3 #[.int .i64 i]) (ngs : ¬ gg bs) (ngi : ¬ gg bi) (hP : RS W0 B A n P) (hB : B ≤ W0.heap.size) (ngA : ∀ ad, A = some ad → ¬ gg ad.block)
    (hn : n ≤ 1000000) (hb : BkOk b) (hOk : PsOk P) :
    SeqCut Fence.wide mm Try.prog 77 #[.pointer (some ⟨bs, 0, none⟩), .pointer (some ⟨bi, 0, none⟩)] encE gg (edsAt b P i) W0 := fun l J Jx W hW hJ hJx hY h0 => by
  have hWB : Bel gg W0 W := Bel.of_below hW
  have hbsW := k1.lt
  have hbiW := k2.lt
  have hszW := hWB.size
  have K1 := Lib.hid (k1.bel hWB ngs)
  have K2 := Lib.hid (k2.bel hWB ngi)
  have HP := Lib.hid (hP.bel hWB ngA)
  have HB := Lib.hid hb
  have HOK := Lib.hid hOk
  have HY := Lib.hid hY
  have HJ := Lib.hid hJ
  have NA := Lib.hid ngA
  have NS := Lib.hid ngs
  have NI := Lib.hid ngi
  clear k1 k2 hP hb hOk hY hJ ngA hW hWB ngs ngi
  refine callsIn_of_wp Try.func77 rfl trivial ?_ rfl
  simp only [Try.ntmps77, List.size_toArray, List.length_cons, List.length_nil, Nat.reduceAdd, Nat.reduceSub, Array.replicate_succ, Array.replicate_zero, List.push_toArray, List.append_toArray, List.nil_append, List.cons_append]
  gi_wp2
  gi_loopw [4] (fun z wr => ∃ (j : Nat), j ≤ 5 ∧ z = .int .i64 ((j + 1 : Nat) : Int) ∧ Hid (J (edsTo b P i j) wr) ∧ Bel gg W wr) (fun z _ => (6 - intOf z).toNat)
  case atStart => exact ⟨0, Nat.zero_le _, rfl, Lib.hid h0, Bel.refl _ _⟩
  case round =>
    obtain ⟨j, hj, rfl, HJJ, hbl⟩ := hrel
    have hsz := hbl.size
    by_cases hlt : j < 5
    · have j1 : ((j + 1 : Nat) : Int) ≤ 5 := by omega
      have J1 := Lib.hid (K1.out.bel hbl NS.out)
      have J2 := Lib.hid (K2.out.bel hbl NI.out)
      have HPW := Lib.hid (HP.out.bel hbl NA.out)
      have CE := Lib.hid (edge_any B A n c b P ((j + 1 : Nat) : Int) (i : Int) wr HPW.out (by omega) hn HB.out HOK.out)
      obtain ⟨s0, s1, s2, s3, s4, s5, s6⟩ := J1.out.seven
      have i0 := J2.out.one.1
      have HBL := Lib.hid hbl
      clear hbl
      cases hE : edgO b P (((j + 1 : Nat) : Int), (i : Int)) with
      | none =>
        rw [hE] at CE
        simp only [edgV, Option.isSome_none] at CE
        have HN : Hid (edsTo b P i (j + 1) = edsTo b P i j) := Lib.hid (by rw [edsTo_succ, edAt_none hE, List.append_nil])
        clear hE
        have f62 : Fence.wide.fn 62 := trivial
        gi_wp2_with (gi_at_call 62; refine (callsIn_wide.2 CE.out).mono ?_; rintro e w1 ⟨rfl, hb1⟩; have HB1 := Lib.hid hb1; clear hb1)
        refine ⟨fun f h => (by cases h), ?_⟩
        gi_wp2
        go_roundw
        case rel => exact ⟨j + 1, by omega, by go_num, Lib.hid (by rw [HN.out]; exact HJ.out _ _ _ none (HJ.out _ _ _ none HJJ.out (grown_bE HB1.out) (by simp)) (World.grownBy_alloc _ _ none) (by simp)), (HBL.out.trans (Bel.of_below HB1.out)).alloc _⟩
        case measure => simp [intOf]; omega
      | some ee =>
        rw [hE] at CE
        simp only [edgV, Option.isSome_some] at CE
        obtain ⟨e1, e2, e3⟩ := ee
        have hN : edsTo b P i (j + 1) = edsTo b P i j ++ [(((j + 1 : Nat) : Int), (i : Int), e1, e2, e3)] := by rw [edsTo_succ, edAt_some hE]
        have hpf : edsTo b P i j ++ [(((j + 1 : Nat) : Int), (i : Int), e1, e2, e3)] <+: edsAt b P i := by rw [← hN]; exact edsTo_prefix b P i (j + 1) (by omega)
        have HPF := Lib.hid hpf
        have HN := Lib.hid hN
        have YY := Lib.hid (fun (X : World) (h : J (edsTo b P i j) X) => HY.out _ _ X h HPF.out)
        have YY := Lib.hid YY.out
        clear hE hN hpf
        have f62 : Fence.wide.fn 62 := trivial
        have hcj : ((j + 1 : Nat) : Int) = (j : Int) + 1 := by omega
        gi_wp2_with (gi_at_call 62; refine (callsIn_wide.2 CE.out).mono ?_; rintro e w1 ⟨rfl, hb1⟩; have HB1 := Lib.hid hb1; clear hb1; obtain ⟨fn, tmps, assign, body, hy, hR⟩ := YY.out (w1.alloc (.cells #[.int .i64 ((j : Int) + 1), .int .i64 i, .int .i64 e1, .int .i64 e2, .int .i64 e3] 78)) (HJ.out _ _ _ none (HJ.out _ _ _ none HJJ.out (grown_bE HB1.out) (by simp)) (World.grownBy_alloc _ _ none) (by simp)); dsimp only [encE, edCells] at hy; rw [hcj] at hy; have HBA := Lib.hid ((HBL.out.trans (Bel.of_below HB1.out)).alloc (.cells #[.int .i64 ((j : Int) + 1), .int .i64 i, .int .i64 e1, .int .i64 e2, .int .i64 e3] 78)); have HRR := Lib.hid hR; clear hR hcj)
        refine HRR.out.mono ?_
        rintro e W3 ⟨-, (⟨rfl, hJ3, hk3⟩ | ⟨rfl, hJx3⟩)⟩
        · gi_wp2
          go_roundw
          case rel => exact ⟨j + 1, by omega, by go_num, Lib.hid (by rw [HN.out]; exact hJ3), HBA.out.trans hk3⟩
          case measure => simp [intOf]; omega
        · gi_wp2
          refine bodyPost_ret (results_none rfl _ _ _) rfl ?_
          exact ⟨⟨_, rfl⟩, .inr ⟨_, _, HPF.out, hJx3⟩⟩
    · obtain rfl : j = 5 := by omega
      gi_wp2
      go_end0
      exact ⟨⟨_, rfl⟩, .inl HJJ.out⟩
end Go.Proofs.Ytgdkcbnpgpjnbaa
