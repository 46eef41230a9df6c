/-
  The document's join and Join; Join; Split's checks.
-/
import Derived.Test.YtlghgehbmlgacaaQI
import Derived.Test.YtlghgehbmlgacaaUK
namespace Go.Proofs.Ytlghgehbmlgacaa
open Go.RowKit

set_option maxRecDepth 100000 in
set_option maxHeartbeats 4000000 in
theorem refJoin1_any (B : Nat) (Am Ad : Option Addr) (n km kd : Nat) (ms ds : List Int) (w : World) (hm : LI w B Am n ms) (hd : LI w B Ad n ds) (hB : B ≤ w.heap.size) (hn : n ≤ 4096) (wm : ∀ x ∈ ms, wib x 32767 = true) (wd : ∀ x ∈ ds, wib x 65534 = true) :
    Calls Try.prog 72 #[.slice Am n km, .slice Ad n kd] w (SmpPost w (jnRes ms ds) (jnErr ms ds)) := by
  have HM := Lib.hid (hm.more hB)
  have HD := Lib.hid (hd.more hB)
  have HNM := Lib.hid hm.1
  have HND := Lib.hid hd.1
  have WM := Lib.hid wm
  have WD := Lib.hid wd
  have HJL : Hid ((jn ms ds).length = n) := Lib.hid (by rw [jn_len (hm.1.symm.trans hd.1)]; exact hd.1.symm)
  obtain ⟨J, hJ⟩ : ∃ J, jn ms ds = J := ⟨_, rfl⟩
  have HJA : Hid (∀ k (h1 : k < ms.length) (h2 : k < ds.length) (h3 : k < J.length), J[k] = jn1 ms[k] ds[k]) := Lib.hid (by subst hJ; intro k h1 h2 h3; exact jn_at h1 h2 h3)
  have HR : Hid (jnRes ms ds = (if vss J then J else []) ∧ jnErr ms ds = if vss J then 0 else 4) := Lib.hid ⟨by unfold jnRes; rw [hJ], by unfold jnErr; rw [hJ]⟩
  obtain ⟨Rs, hRs⟩ : ∃ R, jnRes ms ds = R := ⟨_, rfl⟩
  obtain ⟨Re, hRe⟩ : ∃ R, jnErr ms ds = R := ⟨_, rfl⟩
  rw [hJ] at HJL
  rw [hRs, hRe] at HR ⊢
  clear hJ hRs hRe hm hd hB wm wd
  obtain ⟨i0, hi0, hz0, hz1, hz2⟩ := info_parts info_smp
  have HI0 := Lib.hid hi0
  have HZ0 := Lib.hid hz0
  have HZ1 := Lib.hid hz1
  have HZ2 := Lib.hid hz2
  clear hi0 hz0 hz1 hz2
  go_enter Try.func72, Try.ntmps72
  go_wp2_with fail
  go_loopw [6, 7] (fun vp i wr => ∃ (j : Nat) (sp : Value), j ≤ n ∧ i = .int .i64 j ∧ sp = vp ∧ Hid (wr.ownsRow w.heap.size 64 2 sp j (smpCells (J.take j))) ∧ Hid (Below w.heap.size w wr)) (fun _ i wr => n - (intOf i).toNat)
  case atStart => exact ⟨0, _, Nat.zero_le _, rfl, rfl, Lib.hid (World.ownsRow_nil _ _ _ _), Lib.hid (Below.refl _ _)⟩
  case round =>
    obtain ⟨j, sp, hj, rfl, rfl, HO, HB⟩ := hrel
    by_cases hlt : j < n
    · have hjm : j < ms.length := by have := HNM.out; omega
      have hjd : j < ds.length := by have := HND.out; omega
      have hjJ : j < J.length := by have := HJL.out; omega
      obtain ⟨am, hA1, -, h1⟩ := (HM.out.below HB.out (Nat.le_refl _)).at_ (k := j) hjm
      obtain ⟨ad, hA2, -, h2⟩ := (HD.out.below HB.out (Nat.le_refl _)).at_ (k := j) hjd
      obtain rfl := hA1
      obtain rfl := hA2
      obtain ⟨Ap, cp, rfl, -⟩ := own_reads HO.out
      have b1 := wib_bd (WM.out _ (List.getElem_mem hjm))
      have b2 := wib_bd (WD.out _ (List.getElem_mem hjd))
      have HJ := HJA.out j hjm hjd hjJ
      have HSN : Hid (smpCells (J.take (j + 1)) = smpCells (J.take j) ++ [.int .i64 J[j].1, .int .i64 J[j].2]) := Lib.hid (by rw [List.take_succ_eq_append_getElem hjJ, smpCells_snoc])
      rw [HJ] at HSN
      unfold jn1 at HSN
      dsimp only at HSN
      clear HJ
      obtain ⟨m, hm⟩ : ∃ m, ms[j] = m := ⟨_, rfl⟩
      obtain ⟨d, hd⟩ : ∃ d, ds[j] = d := ⟨_, rfl⟩
      rw [hm] at h1 b1 HSN
      rw [hd] at h2 b2 HSN
      obtain ⟨q, hq⟩ : ∃ q, d / 2 = q := ⟨_, rfl⟩
      rw [hq] at HSN
      have CH := Lib.hid (fun W => by
        have h := refDown_any d 2 W (by omega) (by omega) (by omega) (by omega)
        rw [hq] at h; exact h)
      obtain ⟨r, hr⟩ : ∃ r, m - q = r := ⟨_, rfl⟩
      rw [hr] at HSN
      obtain ⟨l, hl⟩ : ∃ l, r + d = l := ⟨_, rfl⟩
      rw [hl] at HSN
      have e1 : IntKind.i64.wrap (m - q) = r := by rw [hr]; exact IntWalk.i64_in _ (by omega)
      have e2 : IntKind.i64.wrap (r + d) = l := by rw [hl]; exact IntWalk.i64_in _ (by omega)
      clear hm hd hq hr hl b1 b2
      have k1 : wr.drew.cell? (am.add j) = some (.int .i64 m) := h1
      have k2 : wr.drew.cell? (ad.add j) = some (.int .i64 d) := h2
      have hs0 := HB.out.size
      have HOD := Lib.hid HO.out.drew
      have HBD := Lib.hid HB.out.drew
      go_upto_region 5 with fail
      go_region_with (go_at_call 93; refine (CH.out _).mono ?_; rintro e w_ ⟨rfl, rfl⟩)
      all_goals
        go_wp2_with (at_builtin; refine wpList_append_any _ rfl (.tmp 25) (.tmp 34) _ rfl w.heap.size 64 i0 _ 2 16 Try.underlying44 HI0.out HZ0.out HZ1.out HZ2.out rfl (by omega) (.slice Ap j cp) j (smpCells (J.take j)) rfl (HOD.out.alloc _) (wr.heap.size + 1) (some ⟨wr.heap.size, 0, none⟩) 1 1 [.int .i64 l, .int .i64 r] rfl ⟨rfl, fun _ => ⟨_, rfl, Nat.lt_succ_self _, nine_new wr.drew _ _⟩⟩ (by intro x hx; simp at hx; rcases hx with rfl | rfl <;> rfl) (by simp only [maxLen]; omega) (by omega) (by first | omega | (simp; omega)) ?_)
        intro vp w3 hop hgp hbp
        have HO3 : Hid (w3.ownsRow w.heap.size 64 2 vp (j + 1) (smpCells (J.take (j + 1)))) := Lib.hid (by rw [HSN.out]; exact hop)
        have HB3 : Hid (Below w.heap.size w w3) := Lib.hid ((HBD.out.alloc hs0 _).grown hgp (by simp; omega) fun k hk => (HOD.out.lt k hk).1)
        clear hop hgp hbp
        go_wp2
        go_roundw
        case rel => exact ⟨j + 1, vp, by omega, by go_num, rfl, HO3, HB3⟩
        case measure => simp [intOf]; omega
    · obtain rfl : j = n := by omega
      have ho := HO.out
      rw [List.take_of_length_le (by have := HJL.out; omega)] at ho
      obtain ⟨Ap, cp, rfl, hrd⟩ := own_reads ho
      have CP := refProgramme_any wr.heap.size Ap j cp J wr ⟨HJL.out.symm, hrd⟩ (by omega)
      have hck : ckQ J = if vss J then 0 else 3 := by unfold ckQ; rw [if_neg (by have := HJL.out; omega)]
      rw [hck] at CP
      clear hck hrd
      cases hv : vss J
      · obtain ⟨rfl, rfl⟩ : Rs = [] ∧ Re = 4 := by
          obtain ⟨g1, g2⟩ := HR.out
          rw [hv] at g1 g2
          exact ⟨g1, g2⟩
        rw [hv] at CP
        have CP := Lib.hid CP
        clear hv ho HO
        go_wp2_with fail
        refine CP.out.mono ?_
        rintro e w_ ⟨rfl, rfl⟩
        go_wp2
        go_ret2
        exact ⟨_, rfl, World.ownsRow_nil _ _ _ _, HB.out⟩
      · obtain ⟨rfl, rfl⟩ : Rs = J ∧ Re = 0 := by
          obtain ⟨g1, g2⟩ := HR.out
          rw [hv] at g1 g2
          exact ⟨g1, g2⟩
        rw [hv] at CP
        have CP := Lib.hid CP
        have HO2 : Hid (wr.ownsRow w.heap.size 64 2 (.slice Ap j cp) Rs.length (smpCells Rs)) := Lib.hid (by rw [HJL.out]; exact ho)
        clear hv ho HO
        go_wp2_with fail
        refine CP.out.mono ?_
        rintro e w_ ⟨rfl, rfl⟩
        go_wp2
        go_ret2
        exact ⟨_, rfl, HO2.out, HB.out⟩
end Go.Proofs.Ytlghgehbmlgacaa
