/-
  The document's miss.
-/
import Derived.Test.YtjdnpgilinfkgaaMR
import Derived.Test.YtjdnpgilinfkgaaMX
namespace Go.Proofs.Ytjdnpgilinfkgaa
open Go.RowKit

theorem msU_first {s : List Int} {l : List Smp} {i u : Nat} (hs : Shp s) (h : ∀ v, v < u → dst v i < s.length → missB s l i v = false) (hu : u < l.length) (hd : dst u i < s.length) (hm : missB s l i u = true) : msU s l i = some u := by
  have hp := hs.pos
  cases hq : msU s l i with
  | none => rw [(msU_none_iff hs).1 hq u hu hd] at hm; cases hm
  | some u' =>
    obtain ⟨h1, h2, h3⟩ := msU_get hs hq
    rcases Nat.lt_trichotomy u u' with h4 | h4 | h4
    · unfold msU at hq
      obtain ⟨_, l1, l2, e, hb⟩ := List.find?_eq_some_iff_append.1 hq
      have hmem : u ∈ nbr i (s.length - 1) l.length := nbr_mem.2 ⟨hu, by omega⟩
      have hpw : (nbr i (s.length - 1) l.length).Pairwise (· < ·) := List.pairwise_lt_range'
      rw [e] at hmem hpw
      rcases List.mem_append.1 hmem with h5 | h5
      · have := hb u h5; rw [hm] at this; cases this
      · rcases List.mem_cons.1 h5 with h6 | h6
        · omega
        · have := (List.pairwise_cons.1 (List.pairwise_append.1 hpw).2.1).1 u h6; omega
    · rw [h4]
    · rw [h u' h4 h2] at h3; cases h3

set_option maxRecDepth 100000 in
set_option maxHeartbeats 8000000 in
theorem refMissIn_any (B : Nat) (Af A : Option Addr) (nf cf n c : Nat) (s : List Int) (l : List Smp) (w : World) (hL : LI w B Af nf s) (h0 : RS w B A n l) (hB : B ≤ w.heap.size) (hs : Shp s) (he : Edg l) (hn : n ≤ 4096) :
    Calls Try.prog 57 #[.agg #[.slice Af nf cf], .slice A n c] w fun e w' => e = .returned (.tuple #[.int .i64 (((miL s l).getD (0, 0)).1 : Nat), .int .i64 (((miL s l).getD (0, 0)).2 : Nat), .bool (miL s l).isSome]) ∧ Below w.heap.size w w' := by
  have HN := Lib.hid h0.1
  have HNF := Lib.hid hL.1
  have H := Lib.hid (h0.more hB)
  have HL := Lib.hid (hL.more hB)
  have HE := Lib.hid he
  have HSH := Lib.hid hs
  have hnf : nf ≤ 64 := by have := hL.1; have := hs.many; omega
  clear h0 hL hB he hs
  go_enter Try.func57, Try.ntmps57
  go_wp2_with fail
  obtain ⟨W, hW⟩ : ∃ W, w.alloc (.cells #[.slice Af nf cf] 24) = W := ⟨_, rfl⟩
  have hb : Below w.heap.size w W := by rw [← hW]; exact (Below.refl _ _).alloc (Nat.le_refl _) _
  have k0 : Blk W w.heap.size 24 #[.slice Af nf cf] := by rw [← hW]; exact Blk.new _ _ _
  have HK := Lib.hid k0
  replace H := Lib.hid (H.out.below hb (Nat.le_refl _))
  replace HL := Lib.hid (HL.out.below hb (Nat.le_refl _))
  have HB0 := Lib.hid hb
  have hwW := hb.size
  rw [hW]
  have hbW := HK.out.lt
  clear hW hb k0
  go_loopw [7] (fun z wr => ∃ j : Nat, j ≤ n ∧ z = .int .i64 j ∧ Hid (Below W.heap.size W wr) ∧ Hid (∀ q, q < j → msU s l q = none)) (fun z _ => n - (intOf z).toNat)
  case atStart => exact ⟨0, Nat.zero_le _, rfl, Lib.hid (Below.refl _ _), Lib.hid (fun q hq => absurd hq (by omega))⟩
  case round =>
    obtain ⟨j, hj, rfl, HB, HV⟩ := hrel
    by_cases hlt : j < n
    · go_wp2_with fail
      go_loopw [8] (fun z wi => ∃ u : Nat, u ≤ n ∧ z = .int .i64 u ∧ Hid (Below W.heap.size W wi) ∧ Hid (∀ v, v < u → dst v j < s.length → missB s l j v = false)) (fun z _ => n - (intOf z).toNat)
      case atStart => exact ⟨0, Nat.zero_le _, rfl, HB, Lib.hid (fun q hq => absurd hq (by omega))⟩
      case round =>
        clear HB
        obtain ⟨u, hu, rfl, HB, HU⟩ := hrel
        by_cases hul : u < n
        · have hxj : j < l.length := by have := HN.out; omega
          have hxu : u < l.length := by have := HN.out; omega
          have e1 : IntKind.i64.wrap ((u : Int) - j) = (u : Int) - j := IntWalk.i64_in _ (by omega)
          have e2 : IntKind.i64.wrap ((j : Int) - u) = (j : Int) - u := IntWalk.i64_in _ (by omega)
          have e4 : (if (u : Int) - j < (j : Int) - u then (j : Int) - u else (u : Int) - j) = ((dst u j : Nat) : Int) := by unfold dst; split <;> omega
          have t0 := (HK.out.below HB.out hbW).one.1
          by_cases hd : dst u j < nf
          · have hd2 : dst u j < s.length := by have := HNF.out; omega
            obtain ⟨ad, hA, _, p1, p2⟩ := (H.out.below HB.out (by omega)).at_ hxj
            obtain ⟨ad', hA', _, p3, p4⟩ := (H.out.below HB.out (by omega)).at_ hxu
            obtain rfl := hA
            cases hA'
            obtain ⟨af, hAf, _, p5⟩ := (HL.out.below HB.out (by omega)).at_ hd2
            obtain rfl := hAf
            have b1 := HE.out.1 u hxu
            have b2 := HE.out.2 u hxu
            have v1 := HSH.out.nn (dst u j)
            have v2 := HSH.out.top (dst u j)
            have hmb : missB s l j u = (decide (outW l u + atI s (dst u j) < outW l j) || decide (innW l u + atI s (dst u j) < innW l j)) := rfl
            have HFI := Lib.hid (fun h => msU_first HSH.out HU.out hxu hd2 h)
            rw [innW_eq hxu] at b1 hmb
            rw [outW_eq hxu] at b2 hmb
            rw [innW_eq hxj, outW_eq hxj] at hmb
            rw [atI_eq hd2] at v1 v2 hmb
            obtain ⟨p, hp⟩ : ∃ p, l[j] = p := ⟨_, rfl⟩
            rw [hp] at p1 p2 hmb
            obtain ⟨q, hq⟩ : ∃ q, l[u] = q := ⟨_, rfl⟩
            rw [hq] at p3 p4 b1 b2 hmb
            obtain ⟨v, hv⟩ : ∃ v, s[dst u j] = v := ⟨_, rfl⟩
            rw [hv] at p5 v1 v2 hmb
            have e5 : IntKind.i64.wrap (q.2 + v) = q.2 + v := IntWalk.i64_in _ (by omega)
            have e6 : IntKind.i64.wrap (q.1 - v) = q.1 - v := IntWalk.i64_in _ (by omega)
            have HMB := Lib.hid hmb
            obtain ⟨d, hdd⟩ : ∃ d, dst u j = d := ⟨_, rfl⟩
            rw [hdd] at e4 p5 hd
            have c1 : (d : Int) < (nf : Int) := by omega
            have z0 := Lat.cell t0
            have z1 := Lat.cell p1
            have z2 := Lat.cell p2
            have z3 := Lat.cell p3
            have z4 := Lat.cell p4
            have z5 := Lat.cell p5
            clear hp hq hv hdd b1 b2 v1 v2 hmb hd2 hxj hxu t0 p1 p2 p3 p4 p5
            by_cases c2 : q.2 + v < p.2
            · have HM : Hid (missB s l j u = true) := Lib.hid (by rw [HMB.out, decide_eq_true c2]; rfl)
              have d2 : decide (q.2 + v < p.2) = true := decide_eq_true c2
              go_wp2_with fail
              try dsimp only [List.append]
              refine wp_region_lat (by kernel_rfl) (by kernel_rfl) ?_
              repeat (go_big_quiet_step (fail))
              refine wpQuiet_nil ?_
              intro W2 hw'
              have hb1 := lat_out hw'
              replace HB := Lib.hid (HB.out.trans (hb1.mono HB.out.size))
              clear hb1 hw'
              have HF := Lib.hid (miL_some (by have := HN.out; omega) HV.out (HFI.out HM.out))
              go_wp2
              refine bodyPost_ret (results_tmp3 rfl _ _ _) rfl ?_
              exact ⟨by rw [HF.out]; rfl, HB0.out.trans (HB.out.mono hwW)⟩
            · by_cases c3 : p.1 < q.1 - v
              · have HM : Hid (missB s l j u = true) := Lib.hid (by rw [HMB.out, decide_eq_true (show -q.1 + v < -p.1 by omega), Bool.or_true])
                have d2 : decide (q.2 + v < p.2) = false := decide_eq_false c2
                have d3 : decide (p.1 < q.1 - v) = true := decide_eq_true c3
                go_wp2_with fail
                try dsimp only [List.append]
                refine wp_region_lat (by kernel_rfl) (by kernel_rfl) ?_
                repeat (go_big_quiet_step (fail))
                refine wpQuiet_nil ?_
                intro W2 hw'
                have hb1 := lat_out hw'
                replace HB := Lib.hid (HB.out.trans (hb1.mono HB.out.size))
                clear hb1 hw'
                have HF := Lib.hid (miL_some (by have := HN.out; omega) HV.out (HFI.out HM.out))
                go_wp2
                refine bodyPost_ret (results_tmp3 rfl _ _ _) rfl ?_
                exact ⟨by rw [HF.out]; rfl, HB0.out.trans (HB.out.mono hwW)⟩
              · have HM : Hid (missB s l j u = false) := Lib.hid (by rw [HMB.out, decide_eq_false c2, decide_eq_false (show ¬ (-q.1 + v < -p.1) by omega)]; rfl)
                have d2 : decide (q.2 + v < p.2) = false := decide_eq_false c2
                have d3 : decide (p.1 < q.1 - v) = false := decide_eq_false c3
                go_wp2_with fail
                try dsimp only [List.append]
                refine wp_region_lat (by kernel_rfl) (by kernel_rfl) ?_
                repeat (go_big_quiet_step (fail))
                refine wpQuiet_nil ?_
                intro W2 hw'
                have hb1 := lat_out hw'
                replace HB := Lib.hid (HB.out.trans (hb1.mono HB.out.size))
                clear hb1 hw'
                go_wp2
                go_roundw
                case rel => exact ⟨u + 1, by omega, by go_num, HB, Lib.hid (fun z hz hzd => by
                  rcases Nat.lt_or_ge z u with h | h
                  · exact HU.out z h hzd
                  · obtain rfl : z = u := by omega
                    exact HM.out)⟩
                case measure => simp [intOf]; omega
          · have hd2 : ¬ dst u j < s.length := by have := HNF.out; omega
            have HND := Lib.hid hd2
            obtain ⟨d, hdd⟩ : ∃ d, dst u j = d := ⟨_, rfl⟩
            have HDD := Lib.hid hdd
            rw [hdd] at e4 hd
            have c1 : ¬ ((d : Int) < (nf : Int)) := by omega
            have z0 := Lat.cell t0
            clear hdd hd2 hxj hxu t0
            go_wp2_with fail
            try dsimp only [List.append]
            refine wp_region_lat (by kernel_rfl) (by kernel_rfl) ?_
            repeat (go_big_quiet_step (fail))
            refine wpQuiet_nil ?_
            intro W2 hw'
            have hb1 := lat_out hw'
            replace HB := Lib.hid (HB.out.trans (hb1.mono HB.out.size))
            clear hb1 hw'
            go_wp2
            go_roundw
            case rel => exact ⟨u + 1, by omega, by go_num, HB, Lib.hid (fun z hz hzd => by
              rcases Nat.lt_or_ge z u with h | h
              · exact HU.out z h hzd
              · obtain rfl : z = u := by omega
                exact absurd hzd HND.out)⟩
            case measure => simp [intOf]; omega
        · obtain rfl : u = n := by omega
          have HM := Lib.hid ((msU_none_iff (t := j) HSH.out).2 (fun v hv hd => HU.out v (by have := HN.out; omega) hd))
          go_wp2
          go_roundw
          case rel => exact ⟨j + 1, by omega, by go_num, HB, Lib.hid (fun q hq => by
            rcases Nat.lt_or_ge q j with h | h
            · exact HV.out q h
            · rw [show q = j by omega]; exact HM.out)⟩
          case measure => simp [intOf]; omega
    · have HM := Lib.hid (miL_none (fun q hq => HV.out q (by have := HN.out; omega)))
      go_wp2
      refine bodyPost_ret (results_tmp3 rfl _ _ _) rfl ?_
      exact ⟨by rw [HM.out]; rfl, HB0.out.trans (HB.out.mono hwW)⟩
end Go.Proofs.Ytjdnpgilinfkgaa
