/-
  The iterator of the edges of a sample.
-/
import Derived.Test.YtgdkcbnpgpjnbaaLD
import Derived.Test.YtgdkcbnpgpjnbaaL1
import Derived.RangeFuncNested
import Derived.RangeFuncLeaves
import Derived.RangeFuncBound
import Derived.RangeFuncCalls
import Derived.Shelf.Abstract
import Derived.Shelf.RegionOpen
import Derived.OwnWalkIn
import Derived.TacticsInMore
import Derived.LoopNIn
import Derived.LoopIn
namespace Go.Proofs.Ytgdkcbnpgpjnbaa
open Go.RowKit Go.Shelf
attribute [local go_sem] Oper.semAt_some

abbrev EdI (b : Bk) (P : List Smp) (i : Nat) := { e : Ed // e ∈ edsAt b P i }
def edCells (e : Ed) : Value := .agg #[.int .i64 e.1, .int .i64 e.2.1, .int .i64 e.2.2.1, .int .i64 e.2.2.2.1, .int .i64 e.2.2.2.2]
abbrev encD (b : Bk) (P : List Smp) (i : Nat) (x : EdI b P i) : Array Value := #[edCells x.1]
theorem RS.bel {w w' : World} {gg : Nat → Prop} {B : Nat} {A : Option Addr} {n : Nat} {xs : List Smp} (h : RS w B A n xs) (hb : Bel gg w w') (ng : ∀ ad, A = some ad → ¬ gg ad.block) : RS w' B A n xs := by
  refine ⟨h.1, h.2.1, fun hn => ?_⟩
  obtain ⟨ad, e, hbl, hc⟩ := h.2.2 hn
  exact ⟨ad, e, hbl, fun j u hu => hb.cell (hc j u hu) (by rw [block_of_add]; exact ng ad e)⟩
theorem LI.bel {w w' : World} {gg : Nat → Prop} {B : Nat} {A : Option Addr} {n : Nat} {xs : List Int} (h : LI w B A n xs) (hb : Bel gg w w') (ng : ∀ ad, A = some ad → ¬ gg ad.block) : LI w' B A n xs := by
  refine ⟨h.1, h.2.1, fun hn => ?_⟩
  obtain ⟨ad, e, hbl, hc⟩ := h.2.2 hn
  exact ⟨ad, e, hbl, fun j u hu => hb.cell (hc j u hu) (by rw [block_of_add]; exact ng ad e)⟩
theorem Blk.bel {w w' : World} {gg : Nat → Prop} {g : Nat} {t : TypeId} {cs : Array Value} (h : Blk w g t cs) (hb : Bel gg w w') (hg : ¬ gg g) : Blk w' g t cs := hb.block g _ h rfl hg
theorem belK_t {gg : Nat → Prop} {A B C : World} (h : Bel gg A B) (k : Bel gg B C) : Bel gg A C := h.trans k
theorem belK_b {gg : Nat → Prop} {w : World} (W : World) (l : Nat) (o o' : Obj) (_ : w.heap.size ≤ l) (h : W.heap[l]? = some o) (hc : o.isCells = false) (_ : o.isWalk = false) : Bel gg W (W.putObj l o') :=
  (Bel.refl gg W).grown (grownBy_putObj' W l o') (fun k e => by cases e; exact .inr (.inr ⟨_, h, hc⟩))
theorem grown_bE {X Y : World} (h : Below X.heap.size X Y) : X.grownBy Y none := ⟨h.os, h.tape, h.output, h.size, fun i hi _ => h.block i hi⟩

set_option maxHeartbeats 400000 in
theorem edgesAt_any (A : Option Addr) (n c : Nat) (b : Bk) (i : Nat) (w : World) :
    Calls Try.prog 70 #[.agg #[.int .i64 b.per, .int .i64 b.rim, .int .i64 b.core, .int .i64 b.land, .int .i64 b.slow, .int .i64 b.fast, .slice A n c], .int .i64 i] w fun e w' => e = .returned (.func (.func 77) #[] #[.pointer (some ⟨w.heap.size, 0, none⟩), .pointer (some ⟨w.heap.size + 1, 0, none⟩)]) ∧ (w.alloc (.cells #[.int .i64 b.per, .int .i64 b.rim, .int .i64 b.core, .int .i64 b.land, .int .i64 b.slow, .int .i64 b.fast, .slice A n c] 69)).alloc (.cells #[.int .i64 i] 3) = w' := by
  go_enter Try.func70, Try.ntmps70
  go_wp2
  go_ret
  exact ⟨rfl, rfl⟩

set_option maxRecDepth 100000 in
set_option maxHeartbeats 8000000 in
theorem edgesAt1_stops (mm bs bi : Nat) (gg : Nat → Prop) (B : Nat) (A : Option Addr) (n c : Nat) (b : Bk) (P : List Smp) (i : Nat) (W0 : World) (hm : 1 ≤ mm)
    (k1 : Blk W0 bs 69 #[.int .i64 b.per, .int .i64 b.rim, .int .i64 b.core, .int .i64 b.land, .int .i64 b.slow, .int .i64 b.fast, .slice A n c]) (k2 : Blk W0 bi 3 #[.int .i64 i]) (ngs : ¬ gg bs) (ngi : ¬ gg bi) (hP : RS W0 B A n P) (hB : B ≤ W0.heap.size) (ngA : ∀ ad, A = some ad → ¬ gg ad.block)
    (hn : n ≤ 1000000) (hb : BkOk b) (hOk : PsOk P) :
    SeqStopsK Fence.wide mm Try.prog 77 #[.pointer (some ⟨bs, 0, none⟩), .pointer (some ⟨bi, 0, none⟩)] (encD b P i) (Bel gg) (fun xs => xs.map (·.1) = edsAt b P i) (fun pre => pre.map (·.1) <+: edsAt b P i) (edsAt b P i).length W0 := fun l J Jx W hW hJ hJx hY h0 => by
  have hWB : Bel gg W0 W := Bel.of_below hW
  have hbsW := k1.lt
  have hbiW := k2.lt
  have hszW := hWB.size
  have K1 := Lib.hid (k1.bel hWB ngs)
  have K2 := Lib.hid (k2.bel hWB ngi)
  have HP := Lib.hid (hP.bel hWB ngA)
  have HB := Lib.hid hb
  have HOK := Lib.hid hOk
  have HY := Lib.hid hY
  have HJ := Lib.hid hJ
  have NA := Lib.hid ngA
  have NS := Lib.hid ngs
  have NI := Lib.hid ngi
  clear k1 k2 hP hb hOk hY hJ ngA hW hWB ngs ngi
  refine callsIn_of_wp Try.func77 rfl trivial ?_ rfl
  simp only [Try.ntmps77, List.size_toArray, List.length_cons, List.length_nil, Nat.reduceAdd, Nat.reduceSub, Array.replicate_succ, Array.replicate_zero, List.push_toArray, List.append_toArray, List.nil_append, List.cons_append]
  gi_wp2
  gi_loopw [4] (fun z wr => ∃ (j : Nat) (pre : List (EdI b P i)), j ≤ 5 ∧ z = .int .i64 ((j + 1 : Nat) : Int) ∧ Hid (pre.map (·.1) = edsTo b P i j) ∧ Hid (J pre wr) ∧ Bel gg W wr) (fun z _ => (6 - intOf z).toNat)
  case atStart => exact ⟨0, [], Nat.zero_le _, rfl, Lib.hid rfl, Lib.hid h0, Bel.refl _ _⟩
  case round =>
    obtain ⟨j, pre, hj, rfl, HPR, HJJ, hbl⟩ := hrel
    have hsz := hbl.size
    by_cases hlt : j < 5
    · have j1 : ((j + 1 : Nat) : Int) ≤ 5 := by omega
      have J1 := Lib.hid (K1.out.bel hbl NS.out)
      have J2 := Lib.hid (K2.out.bel hbl NI.out)
      have HPW := Lib.hid (HP.out.bel hbl NA.out)
      have CE := Lib.hid (edge_any B A n c b P ((j + 1 : Nat) : Int) (i : Int) wr HPW.out (by omega) hn HB.out HOK.out)
      obtain ⟨s0, s1, s2, s3, s4, s5, s6⟩ := J1.out.seven
      have i0 := J2.out.one.1
      have HBL := Lib.hid hbl
      clear hbl
      cases hE : edgO b P (((j + 1 : Nat) : Int), (i : Int)) with
      | none =>
        rw [hE] at CE
        simp only [edgV, Option.isSome_none] at CE
        have HN : Hid (edsTo b P i (j + 1) = edsTo b P i j) := Lib.hid (by rw [edsTo_succ, edAt_none hE, List.append_nil])
        clear hE
        have f62 : Fence.wide.fn 62 := trivial
        gi_wp2_with (gi_at_call 62; refine (callsIn_wide.2 CE.out).mono ?_; rintro e w1 ⟨rfl, hb1⟩; have HB1 := Lib.hid hb1; clear hb1)
        refine ⟨fun f h => (by cases h), ?_⟩
        gi_wp2
        go_roundw
        case rel => exact ⟨j + 1, pre, by omega, by go_num, Lib.hid (by rw [HN.out]; exact HPR.out), Lib.hid (HJ.out _ _ _ none (HJ.out _ _ _ none HJJ.out (grown_bE HB1.out) (by simp)) (World.grownBy_alloc _ _ none) (by simp)), (HBL.out.trans (Bel.of_below HB1.out)).alloc _⟩
        case measure => simp [intOf]; omega
      | some ee =>
        rw [hE] at CE
        simp only [edgV, Option.isSome_some] at CE
        obtain ⟨e1, e2, e3⟩ := ee
        have hmem : (((j + 1 : Nat) : Int), (i : Int), e1, e2, e3) ∈ edsAt b P i := mem_edsTo.2 ⟨j + 1, by omega, by omega, mem_edAt.2 ⟨rfl, rfl, hE⟩⟩
        have hN : edsTo b P i (j + 1) = edsTo b P i j ++ [(((j + 1 : Nat) : Int), (i : Int), e1, e2, e3)] := by rw [edsTo_succ, edAt_some hE]
        obtain ⟨px, hpx⟩ : ∃ px, pre ++ [(⟨(((j + 1 : Nat) : Int), (i : Int), e1, e2, e3), hmem⟩ : EdI b P i)] = px := ⟨_, rfl⟩
        have HN : Hid (px.map (·.1) = edsTo b P i (j + 1)) := Lib.hid (by rw [← hpx, List.map_append, HPR.out, hN]; rfl)
        have hlen : pre.length < (edsAt b P i).length := by
          have h1 := congrArg List.length HPR.out
          have h2 := congrArg List.length hN
          have h3 := (edsTo_prefix b P i (j + 1) (by omega)).length_le
          simp at h1 h2; omega
        have HLEN := Lib.hid hlen
        have YY := Lib.hid (fun (X : World) (h : J pre X) => HY.out pre (⟨(((j + 1 : Nat) : Int), (i : Int), e1, e2, e3), hmem⟩ : EdI b P i) X h HLEN.out)
        rw [hpx] at YY
        have YY := Lib.hid YY.out
        clear hE hN hlen hpx
        have f62 : Fence.wide.fn 62 := trivial
        have hcj : ((j + 1 : Nat) : Int) = (j : Int) + 1 := by omega
        gi_wp2_with (gi_at_call 62; refine (callsIn_wide.2 CE.out).mono ?_; rintro e w1 ⟨rfl, hb1⟩; have HB1 := Lib.hid hb1; clear hb1; obtain ⟨fn, tmps, assign, body, hy, hR⟩ := YY.out (w1.alloc (.cells #[.int .i64 ((j : Int) + 1), .int .i64 i, .int .i64 e1, .int .i64 e2, .int .i64 e3] 78)) (HJ.out _ _ _ none (HJ.out _ _ _ none HJJ.out (grown_bE HB1.out) (by simp)) (World.grownBy_alloc _ _ none) (by simp)); dsimp only [encD, edCells] at hy; rw [hcj] at hy; have HBA := Lib.hid ((HBL.out.trans (Bel.of_below HB1.out)).alloc (.cells #[.int .i64 ((j : Int) + 1), .int .i64 i, .int .i64 e1, .int .i64 e2, .int .i64 e3] 78)); have HRR := Lib.hid hR; clear hR hcj)
        refine HRR.out.mono ?_
        rintro e W3 (⟨rfl, hJ3, hk3⟩ | ⟨rfl, hJx3⟩)
        · gi_wp2
          go_roundw
          case rel => exact ⟨j + 1, px, by omega, by go_num, HN, Lib.hid hJ3, HBA.out.trans hk3⟩
          case measure => simp [intOf]; omega
        · gi_wp2
          refine bodyPost_ret (results_none rfl _ _ _) rfl ?_
          exact ⟨⟨_, rfl⟩, .inr ⟨_, by rw [HN.out]; exact edsTo_prefix b P i (j + 1) (by omega), hJx3⟩⟩
    · obtain rfl : j = 5 := by omega
      gi_wp2
      go_end0
      exact ⟨⟨_, rfl⟩, .inl ⟨_, HPR.out, HJJ.out⟩⟩
end Go.Proofs.Ytgdkcbnpgpjnbaa
