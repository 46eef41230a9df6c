/-
  The greatest radius of a round tip that reads a groove exactly: greatestRadius and Greatest of package play.
-/
import Derived.Test.YtjdnpgilinfkgaaNR
import Derived.Test.YtjdnpgilinfkgaaMX
namespace Go.Proofs.Ytjdnpgilinfkgaa
open Go.RowKit

/-- The greatest radius up to a number whose round tip misses nothing. -/
def gtN (l : List Smp) (a : Nat) : Nat → Nat
  | 0 => 0
  | R + 1 => if miL (rndL (R + 1) a false) l = none then R + 1 else gtN l a R
theorem rndL_0 (a : Nat) : rndL 0 a false = [0] := by
  unfold rndL
  rw [Nat.zero_div]
  show [bhL 0 (0 * a) false] = [0]
  rw [Nat.zero_mul, bhL_zero]
theorem gtN_le (l : List Smp) (a : Nat) : ∀ m, gtN l a m ≤ m
  | 0 => Nat.le_refl _
  | m + 1 => by
    unfold gtN
    have := gtN_le l a m
    split <;> omega
theorem gtN_none (l : List Smp) (a : Nat) : ∀ m, miL (rndL (gtN l a m) a false) l = none
  | 0 => by show miL (rndL 0 a false) l = none; rw [rndL_0]; exact mi_ideal l
  | m + 1 => by
    unfold gtN
    split
    · assumption
    · exact gtN_none l a m
theorem gtN_ge (l : List Smp) (a : Nat) {R : Nat} (h : miL (rndL R a false) l = none) : ∀ m, R ≤ m → R ≤ gtN l a m
  | 0, hm => by omega
  | m + 1, hm => by
    unfold gtN
    split
    · exact hm
    · rename_i hne
      rcases Nat.lt_or_ge m R with h2 | h2
      · have : R = m + 1 := by omega
        subst this
        exact absurd h hne
      · exact gtN_ge l a h m h2
/-- Up to the greatest radius nothing is missed, and something beyond it. -/
theorem gtN_iff {l : List Smp} {a R m : Nat} (hm : m ≤ 1024) (hk : m / a + 1 ≤ 64) (hR : R ≤ m) : miL (rndL R a false) l = none ↔ R ≤ gtN l a m := by
  have hd : ∀ x, x ≤ m → x / a + 1 ≤ 64 := fun x hx => Nat.le_trans (Nat.add_le_add_right (Nat.div_le_div_right hx) 1) hk
  refine ⟨fun h => gtN_ge l a h m hR, fun h => ?_⟩
  have h1 := gtN_le l a m
  obtain ⟨h2, h3⟩ := rndL_sharper (arc := a) h
  exact mi_sharper (rndL_shp false (by omega) (hd _ h1)) (rndL_shp false (by omega) (hd _ hR)) h2 h3 (gtN_none l a m)

set_option maxRecDepth 100000 in
set_option maxHeartbeats 8000000 in
theorem greatestRadius_any (B : Nat) (A : Option Addr) (n c : Nat) (l : List Smp) (a most : Nat) (w : World) (h0 : RS w B A n l) (hB : B ≤ w.heap.size) (he : Edg l) (hn : n ≤ 4096) (hm : most ≤ 1024) (ha : 1 ≤ a) (ha2 : a ≤ 4194304) (hk : most / a + 1 ≤ 64) :
    Calls Try.prog 56 #[.slice A n c, .int .i64 a, .int .i64 most] w fun e w' => e = .returned (.int .i64 (gtN l a most)) ∧ Below w.heap.size w w' := by
  have HN := Lib.hid h0.1
  have H := Lib.hid (h0.more hB)
  have HE := Lib.hid he
  have HIF := Lib.hid (fun R (hR : R ≤ most) => gtN_iff (l := l) hm hk hR)
  have HSP := Lib.hid (fun R (hR : R ≤ most) => rndL_shp (arc := a) false (Nat.le_trans hR hm) (Nat.le_trans (Nat.add_le_add_right (Nat.div_le_div_right hR) 1) hk))
  have RN := Lib.hid (fun R (hR : R ≤ most) W => round_any R a false W (Nat.le_trans hR hm) ha ha2 (Nat.le_trans (Nat.add_le_add_right (Nat.div_le_div_right hR) 1) hk))
  have hgl := gtN_le l a most
  obtain ⟨g, hg⟩ : ∃ g, gtN l a most = g := ⟨_, rfl⟩
  rw [hg] at hgl HIF
  rw [hg]
  clear h0 hB he hk hg
  go_enter Try.func56, Try.ntmps56
  go_wp2
  go_step3
  go_wp2
  go_step3
  go_wp2_with fail
  go_loopw [7, 8] (fun u v wr => ∃ i j : Nat, i ≤ g ∧ g ≤ j ∧ j ≤ most ∧ u = .int .i64 i ∧ v = .int .i64 j ∧ Hid (Below w.heap.size w wr)) (fun u v _ => (intOf v).toNat - (intOf u).toNat)
  case atStart => exact ⟨0, most, Nat.zero_le _, hgl, Nat.le_refl _, rfl, rfl, Lib.hid (Below.refl _ _)⟩
  case round =>
    obtain ⟨i, j, hi, hj, hjm, rfl, rfl, HB⟩ := hrel
    by_cases hlt : i < j
    · have g1 : (i : Int) < (j : Int) := by omega
      obtain ⟨d, hd⟩ : ∃ d, (j - i) / 2 = d := ⟨_, rfl⟩
      obtain ⟨m, hmm⟩ : ∃ m, j - d = m := ⟨_, rfl⟩
      have e1 : IntKind.i64.wrap ((j : Int) - i) = (j : Int) - i := IntWalk.i64_in _ (by omega)
      have e2 : ((j : Int) - i).tdiv 2 = (d : Int) := by rw [Int.tdiv_eq_ediv_of_nonneg (by omega)]; omega
      have e2' : ((j : Int) - i) / 2 = (d : Int) := by omega
      have e3 : IntKind.i64.wrap (d : Int) = (d : Int) := IntWalk.i64_in _ (by omega)
      have e4 : IntKind.i64.wrap ((j : Int) - d) = (m : Int) := by rw [show (j : Int) - d = m by omega]; exact IntWalk.i64_in _ (by omega)
      have e5 : IntKind.i64.wrap ((m : Int) - 1) = ((m - 1 : Nat) : Int) := by rw [show (m : Int) - 1 = ((m - 1 : Nat) : Int) by omega]; exact IntWalk.i64_in _ (by omega)
      have p1 : ¬ ((j : Int) - i < 0) := by omega
      have hm1 : i < m := by omega
      have hm2 : m ≤ j := by omega
      have hSH := HSP.out m (by omega)
      have HSH := Lib.hid hSH
      have HIM := Lib.hid (HIF.out m (by omega))
      have CALL := RN.out m (by omega) wr
      have h64 := hSH.many
      obtain ⟨s, hs⟩ : ∃ s, rndL m a false = s := ⟨_, rfl⟩
      rw [hs] at HSH HIM CALL h64
      clear hd hmm hs hSH
      go_wp2_with fail
      refine CALL.mono ?_
      rintro e w2 ⟨At, nt, ct, rfl, ht, hct, hb, -⟩
      have HT := Lib.hid ht
      replace HB := Lib.hid (HB.out.trans (hb.mono HB.out.size))
      clear CALL ht hb
      go_wp2_with fail
      refine (stylusOf_any w2.heap.size At nt ct s w2 HT.out (Nat.le_refl _) HSH.out).mono ?_
      rintro e w3 ⟨Ag, ng, cg, rfl, hg3, hb⟩
      have HG := Lib.hid hg3
      replace HB := Lib.hid (HB.out.trans (hb.mono HB.out.size))
      clear hg3 hb HT
      go_wp2_with fail
      obtain ⟨W, hW⟩ : ∃ W, w3.alloc (.cells #[.slice Ag ng cg, .int .i64 ((s.length - 1 : Nat) : Int)] 107) = W := ⟨_, rfl⟩
      have hb3 : Below w3.heap.size w3 W := by rw [← hW]; exact (Below.refl _ _).alloc (Nat.le_refl _) _
      have k3 : Blk W w3.heap.size 107 #[.slice Ag ng cg, .int .i64 ((s.length - 1 : Nat) : Int)] := by rw [← hW]; exact Blk.new _ _ _
      have HK3 := Lib.hid k3
      replace HG := Lib.hid ((HG.out.below hb3 (Nat.le_refl _)).more hb3.size)
      replace HB := Lib.hid (HB.out.trans (hb3.mono HB.out.size))
      rw [hW]
      have HSZ : Hid (w.heap.size ≤ W.heap.size) := Lib.hid HB.out.size
      clear hW hb3 k3
      go_loopw [8, 30] (fun v8 z wq => ∃ t : Nat, t ≤ n ∧ z = .int .i64 t ∧ v8 = .int .i64 j ∧ Hid (Below w.heap.size w wq) ∧ Hid (Below W.heap.size W wq) ∧ Hid (∀ q, q < t → msU s l q = none)) (fun _ z _ => n - (intOf z).toNat)
      case atStart => exact ⟨0, Nat.zero_le _, rfl, rfl, HB, Lib.hid (Below.refl _ _), Lib.hid (fun q hq => absurd hq (by omega))⟩
      case round =>
        clear HB
        obtain ⟨t, ht, rfl, rfl, HB, HW, HV⟩ := hrel
        by_cases hlt : t < n
        · have g0 := ((HK3.out.below HW.out HK3.out.lt).cell 0).trans rfl
          have g1 := ((HK3.out.below HW.out HK3.out.lt).cell 1).trans rfl
          have CALL := missed_any W.heap.size s Ag A ng cg n c t l wr (HG.out.below HW.out (Nat.le_refl _)) ((H.out.below HB.out (Nat.le_refl _)).more HSZ.out) HW.out.size HSH.out HE.out hlt hn
          cases hmu : msU s l t with
          | none =>
            rw [hmu] at CALL
            have HM := Lib.hid hmu
            clear hmu
            go_wp2_with fail
            refine CALL.mono ?_
            rintro e w8 ⟨rfl, hb8⟩
            replace HB := Lib.hid (HB.out.trans (hb8.mono HB.out.size))
            replace HW := Lib.hid (HW.out.trans (hb8.mono HW.out.size))
            clear CALL hb8 g0 g1
            go_wp2
            go_roundw
            case rel => exact ⟨t + 1, by omega, by go_num, rfl, HB, HW, Lib.hid (fun q hq => by
              rcases Nat.lt_or_ge q t with h | h
              · exact HV.out q h
              · rw [show q = t by omega]; exact HM.out)⟩
            case measure => simp [intOf]; omega
          | some u =>
            rw [hmu] at CALL
            have hno : ¬ m ≤ g := fun h => by
              have := miL_none_all (HIM.out.2 h) t (by have := HN.out; omega)
              rw [hmu] at this; cases this
            clear hmu
            go_wp2_with fail
            refine CALL.mono ?_
            rintro e w8 ⟨rfl, hb8⟩
            replace HB := Lib.hid (HB.out.trans (hb8.mono HB.out.size))
            clear CALL hb8 g0 g1
            go_wp2
            go_roundw
            case rel => exact ⟨i, m - 1, hi, by omega, by omega, rfl, rfl, HB⟩
            case measure => simp [intOf]; omega
        · have hyes : m ≤ g := HIM.out.1 (miL_none (fun q hq => HV.out q (by have := HN.out; omega)))
          go_wp2
          go_roundw
          case rel => exact ⟨m, j, hyes, hj, hjm, rfl, rfl, HB⟩
          case measure => simp [intOf]; omega
    · obtain rfl : i = g := by omega
      go_wp2
      try rw [Exit.noGoto_ret]
      go_ret
      exact ⟨rfl, HB.out⟩
end Go.Proofs.Ytjdnpgilinfkgaa
