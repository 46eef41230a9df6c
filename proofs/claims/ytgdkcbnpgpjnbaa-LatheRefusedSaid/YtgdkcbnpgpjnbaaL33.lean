/-
  Contract of the document's Weigh.
-/
import Derived.Test.YtgdkcbnpgpjnbaaLJ
import Derived.Test.YtgdkcbnpgpjnbaaLE
namespace Go.Proofs.Ytgdkcbnpgpjnbaa
open Go.RowKit

theorem results_tmp4W {fn : Func} {t u v z : Tmp} (h : fn.results = #[.tmp t, .tmp u, .tmp v, .tmp z]) (tmps : Array Value) (P : Program) (w : World) :
    (results fn tmps).run P w = .ok (.tuple #[tmps.getD t undef, tmps.getD u undef, tmps.getD v undef, tmps.getD z undef]) w := by
  simp [results, h]
def WgOk (b : Bk) (P : List Smp) (st : Smp) (f t g : Int) (ok : Bool) : Prop := match edgO b P st with
  | none => ok = false
  | some e => ok = true ∧ f = e.1 ∧ t = e.2.1 ∧ g = e.2.2
set_option maxRecDepth 100000 in
set_option maxHeartbeats 8000000 in
theorem Weigh_any (B : Nat) (A : Option Addr) (n c : Nat) (b : Bk) (P : List Smp) (r i : Int) (w : World) (h0 : RS w B A n P) (hB : B ≤ w.heap.size) (hn : n ≤ 4096) (hb : BkOk b) (hP : PsOk P) :
    Calls Try.prog 72 #[.agg #[.int .i64 b.per, .int .i64 b.rim, .int .i64 b.core, .int .i64 b.land, .int .i64 b.slow, .int .i64 b.fast], .slice A n c, .agg #[.int .i64 r, .int .i64 i]] w fun e w' => ∃ f t g ok, e = .returned (.tuple #[.int .i64 f, .int .i64 t, .int .i64 g, .bool ok]) ∧ WgOk b P (r, i) f t g ok ∧ Below w.heap.size w w' := by
  have HP := Lib.hid (h0.more hB)
  have HN := Lib.hid h0.1
  have HOK := Lib.hid (And.intro hb hP)
  have p1 := hb.per1
  have p2 := hb.per2
  have r1 := hb.core
  have r2 := hb.corim
  have r3 := hb.rim
  have r4 := hb.land1
  have r5 := hb.land2
  have r6 := hb.slow
  have r7 := hb.slowfast
  have r8 := hb.fast
  clear h0 hB hb hP
  go_enter Try.func72, Try.ntmps72
  go_upto_region 1 with fail
  obtain ⟨w0, hW⟩ : ∃ W, (w.alloc (.cells #[.int .i64 b.per, .int .i64 b.rim, .int .i64 b.core, .int .i64 b.land, .int .i64 b.slow, .int .i64 b.fast] 23)).alloc (.cells #[.int .i64 r, .int .i64 i] 52) = W := ⟨_, rfl⟩
  have hb0 : Below w.heap.size w w0 := by rw [← hW]; exact (below_a _ _).alloc (below_a _ _).size _
  have k0 : Blk w0 w.heap.size 23 #[.int .i64 b.per, .int .i64 b.rim, .int .i64 b.core, .int .i64 b.land, .int .i64 b.slow, .int .i64 b.fast] := by rw [← hW]; exact (Blk.new _ _ _).alloc _
  have k1 : Blk w0 (w.heap.size + 1) 52 #[.int .i64 r, .int .i64 i] := by rw [← hW]; have := Blk.new (w.alloc (.cells #[.int .i64 b.per, .int .i64 b.rim, .int .i64 b.core, .int .i64 b.land, .int .i64 b.slow, .int .i64 b.fast] 23)) 52 #[.int .i64 r, .int .i64 i]; simp only [World.size_alloc] at this; exact this
  rw [hW]
  have HB := Lib.hid hb0
  obtain ⟨c0, c1, c2, c3, c4, c5⟩ := k0.six
  have d0 := k1.two.1
  have d1 := k1.two.2.1
  clear hW hb0 k0 k1
  by_cases hi0 : i < 0
  · have HE : Hid (∀ f t g, WgOk b P (r, i) f t g false) := Lib.hid (fun f t g => by unfold WgOk; rw [edgO_neg hi0])
    go_wp2_with fail
    go_quiet (fail)
    go_wp2_with fail
    (try simp only [Exit.inBlock, Exit.then])
    refine bodyPost_ret (results_tmp4W rfl _ _ _) rfl ?_
    exact ⟨_, _, _, _, rfl, HE.out _ _ _, by first | exact HB.out | exact HB.out.drew | exact below_drewN_ HB.out _ | exact below_drewN_ (below_drewN_ HB.out _) _⟩
  · by_cases hin : (n : Int) ≤ i
    · have HE : Hid (∀ f t g, WgOk b P (r, i) f t g false) := Lib.hid (fun f t g => by unfold WgOk; rw [edgO_far (by rw [← HN.out]; exact hin)])
      go_wp2_with fail
      go_quiet (fail)
      go_wp2_with fail
      (try simp only [Exit.inBlock, Exit.then])
      refine bodyPost_ret (results_tmp4W rfl _ _ _) rfl ?_
      exact ⟨_, _, _, _, rfl, HE.out _ _ _, by first | exact HB.out | exact HB.out.drew | exact below_drewN_ HB.out _ | exact below_drewN_ (below_drewN_ HB.out _) _⟩
    · obtain ⟨k, rfl⟩ : ∃ k : Nat, i = (k : Int) := ⟨i.toNat, by omega⟩
      have hk : k < n := by omega
      have hkP : k < P.length := by rw [← HN.out]; exact hk
      obtain ⟨ad, hA, -, g1, g2⟩ := (HP.out.below HB.out (Nat.le_refl _)).pt hk
      subst hA
      have y3 := HOK.out.2.at_ k
      obtain ⟨pi, hpi⟩ : ∃ x, pin P k = x := ⟨_, rfl⟩
      obtain ⟨po, hpo⟩ : ∃ x, pout P k = x := ⟨_, rfl⟩
      rw [hpi, hpo] at y3
      rw [hpi] at g1
      rw [hpo] at g2
      obtain ⟨y5, y6, y7, y8⟩ := y3
      have HPI := Lib.hid hpi
      have HPO := Lib.hid hpo
      clear hpi hpo
      by_cases h1 : r = 1
      · subst h1
        have e1 : IntKind.i64.wrap (b.rim - po) = b.rim - po := IntWalk.i64_in _ (by omega)
        have HE : Hid (WgOk b P (1, (k : Int)) (-1) k (b.rim - po) true) := Lib.hid (by unfold WgOk; rw [edgO_rim hkP, HPO.out]; exact ⟨rfl, rfl, rfl, rfl⟩)
        clear hkP
        go_wp2_with fail
        go_quiet (fail)
        go_wp2_with fail
        go_quiet (fail)
        go_wp2_with fail
        (try simp only [Exit.inBlock, Exit.then])
        refine bodyPost_ret (results_tmp4W rfl _ _ _) rfl ?_
        exact ⟨_, _, _, _, rfl, HE.out, by first | exact HB.out | exact HB.out.drew | exact below_drewN_ HB.out _ | exact below_drewN_ (below_drewN_ HB.out _) _⟩
      · by_cases h2 : r = 2
        · subst h2
          have e1 : IntKind.i64.wrap (pi - b.core) = pi - b.core := IntWalk.i64_in _ (by omega)
          have HE : Hid (WgOk b P (2, (k : Int)) k (-1) (pi - b.core) true) := Lib.hid (by unfold WgOk; rw [edgO_core hkP, HPI.out]; exact ⟨rfl, rfl, rfl, rfl⟩)
          clear hkP
          go_wp2_with fail
          go_quiet (fail)
          go_wp2_with fail
          go_quiet (fail)
          go_wp2_with fail
          (try simp only [Exit.inBlock, Exit.then])
          refine bodyPost_ret (results_tmp4W rfl _ _ _) rfl ?_
          exact ⟨_, _, _, _, rfl, HE.out, by first | exact HB.out | exact HB.out.drew | exact below_drewN_ HB.out _ | exact below_drewN_ (below_drewN_ HB.out _) _⟩
        · by_cases h3 : r = 3
          · subst h3
            have e1 : IntKind.i64.wrap (-b.slow) = -b.slow := IntWalk.i64_in _ (by omega)
            have e2 : IntKind.i64.wrap ((k : Int) - 1) = (k : Int) - 1 := IntWalk.i64_in _ (by omega)
            by_cases hk0 : 0 < k
            · have hk1 : (k : Int) > 0 := by omega
              have HE : Hid (WgOk b P (3, (k : Int)) ((k : Int) - 1) k (-b.slow) true) := Lib.hid (by unfold WgOk; rw [edgO_slow hkP hk0]; exact ⟨rfl, rfl, rfl, rfl⟩)
              clear hkP
              go_wp2_with fail
              go_quiet (fail)
              go_wp2_with fail
              go_quiet (fail)
              go_wp2_with fail
              (try simp only [Exit.inBlock, Exit.then])
              refine bodyPost_ret (results_tmp4W rfl _ _ _) rfl ?_
              exact ⟨_, _, _, _, rfl, HE.out, by first | exact HB.out | exact HB.out.drew | exact below_drewN_ HB.out _ | exact below_drewN_ (below_drewN_ HB.out _) _⟩
            · obtain rfl : k = 0 := by omega
              have HE : Hid (∀ f t g, WgOk b P (3, ((0 : Nat) : Int)) f t g false) := Lib.hid (fun f t g => by unfold WgOk; rw [show ((0 : Nat) : Int) = 0 from rfl, edgO_slow0])
              clear hkP
              go_wp2_with fail
              go_quiet (fail)
              go_wp2_with fail
              go_quiet (fail)
              go_wp2_with fail
              (try simp only [Exit.inBlock, Exit.then])
              refine bodyPost_ret (results_tmp4W rfl _ _ _) rfl ?_
              exact ⟨_, _, _, _, rfl, HE.out _ _ _, by first | exact HB.out | exact HB.out.drew | exact below_drewN_ HB.out _ | exact below_drewN_ (below_drewN_ HB.out _) _⟩
          · by_cases h4 : r = 4
            · subst h4
              have e2 : IntKind.i64.wrap ((k : Int) - 1) = (k : Int) - 1 := IntWalk.i64_in _ (by omega)
              by_cases hk0 : 0 < k
              · have hk1 : (k : Int) > 0 := by omega
                have HE : Hid (WgOk b P (4, (k : Int)) k ((k : Int) - 1) b.fast true) := Lib.hid (by unfold WgOk; rw [edgO_fast hkP hk0]; exact ⟨rfl, rfl, rfl, rfl⟩)
                clear hkP
                go_wp2_with fail
                go_quiet (fail)
                go_wp2_with fail
                go_quiet (fail)
                go_wp2_with fail
                (try simp only [Exit.inBlock, Exit.then])
                refine bodyPost_ret (results_tmp4W rfl _ _ _) rfl ?_
                exact ⟨_, _, _, _, rfl, HE.out, by first | exact HB.out | exact HB.out.drew | exact below_drewN_ HB.out _ | exact below_drewN_ (below_drewN_ HB.out _) _⟩
              · obtain rfl : k = 0 := by omega
                have HE : Hid (∀ f t g, WgOk b P (4, ((0 : Nat) : Int)) f t g false) := Lib.hid (fun f t g => by unfold WgOk; rw [show ((0 : Nat) : Int) = 0 from rfl, edgO_fast0])
                clear hkP
                go_wp2_with fail
                go_quiet (fail)
                go_wp2_with fail
                go_quiet (fail)
                go_wp2_with fail
                (try simp only [Exit.inBlock, Exit.then])
                refine bodyPost_ret (results_tmp4W rfl _ _ _) rfl ?_
                exact ⟨_, _, _, _, rfl, HE.out _ _ _, by first | exact HB.out | exact HB.out.drew | exact below_drewN_ HB.out _ | exact below_drewN_ (below_drewN_ HB.out _) _⟩
            · by_cases h5 : r = 5
              · subst h5
                by_cases hk0 : b.per ≤ (k : Int)
                · obtain ⟨m, hm⟩ : ∃ m : Nat, k - b.per.toNat = m := ⟨_, rfl⟩
                  have hmz : (k : Int) - b.per = (m : Int) := by omega
                  have hmn : m < n := by omega
                  have e2 : IntKind.i64.wrap ((k : Int) - b.per) = (m : Int) := by rw [hmz]; exact IntWalk.i64_in _ (by omega)
                  obtain ⟨ad2, hA2, -, g3, -⟩ := (HP.out.below HB.out (Nat.le_refl _)).pt hmn
                  cases hA2
                  have y9 := HOK.out.2.at_ m
                  obtain ⟨pm, hpm⟩ : ∃ x, pin P m = x := ⟨_, rfl⟩
                  rw [hpm] at g3 y9
                  obtain ⟨y10, y11, -, -⟩ := y9
                  have e3 : IntKind.i64.wrap (pm - po) = pm - po := IntWalk.i64_in _ (by omega)
                  have e4 : IntKind.i64.wrap (pm - po - b.land) = pm - po - b.land := IntWalk.i64_in _ (by omega)
                  have HE : Hid (WgOk b P (5, (k : Int)) m k (pm - po - b.land) true) := Lib.hid (by unfold WgOk; rw [edgO_land hkP hk0]; exact ⟨rfl, hmz.symm, rfl, by show _ = wLand b P k; unfold wLand; rw [hm, hpm, HPO.out]⟩)
                  clear hkP hm hmz hpm
                  go_wp2_with fail
                  go_quiet (fail)
                  go_wp2_with fail
                  go_quiet (fail)
                  go_wp2_with fail
                  (try simp only [Exit.inBlock, Exit.then])
                  refine bodyPost_ret (results_tmp4W rfl _ _ _) rfl ?_
                  exact ⟨_, _, _, _, rfl, HE.out, by first | exact HB.out | exact HB.out.drew | exact below_drewN_ HB.out _ | exact below_drewN_ (below_drewN_ HB.out _) _⟩
                · have HE : Hid (∀ f t g, WgOk b P (5, (k : Int)) f t g false) := Lib.hid (fun f t g => by unfold WgOk; rw [edgO_land0 (by omega)])
                  clear hkP
                  go_wp2_with fail
                  go_quiet (fail)
                  go_wp2_with fail
                  (try simp only [Exit.inBlock, Exit.then])
                  refine bodyPost_ret (results_tmp4W rfl _ _ _) rfl ?_
                  exact ⟨_, _, _, _, rfl, HE.out _ _ _, by first | exact HB.out | exact HB.out.drew | exact below_drewN_ HB.out _ | exact below_drewN_ (below_drewN_ HB.out _) _⟩
              · have HE : Hid (∀ f t g, WgOk b P (r, (k : Int)) f t g false) := Lib.hid (fun f t g => by unfold WgOk; rw [edgO_other h1 h2 h3 h4 h5])
                have h1' : (r == 1) = false := beq_eq_false_iff_ne.2 h1
                have h2' : (r == 2) = false := beq_eq_false_iff_ne.2 h2
                have h3' : (r == 3) = false := beq_eq_false_iff_ne.2 h3
                have h4' : (r == 4) = false := beq_eq_false_iff_ne.2 h4
                have h5' : (r == 5) = false := beq_eq_false_iff_ne.2 h5
                clear hkP
                go_wp2_with fail
                go_quiet (fail)
                go_wp2_with fail
                (try simp only [Exit.inBlock, Exit.then])
                refine bodyPost_ret (results_tmp4W rfl _ _ _) rfl ?_
                exact ⟨_, _, _, _, rfl, HE.out _ _ _, by first | exact HB.out | exact HB.out.drew | exact below_drewN_ HB.out _ | exact below_drewN_ (below_drewN_ HB.out _) _⟩
end Go.Proofs.Ytgdkcbnpgpjnbaa
