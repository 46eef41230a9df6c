/-
  Middles and sides: filter.join.
-/
import Derived.Test.YtjaomjbhkgijbaaMg39
import Derived.Test.YtjaomjbhkgijbaaMg3
import Derived.Deep.RegionWith
import Derived.Test.YtjaomjbhkgijbaaMg29

namespace Go.Proofs.Ytjaomjbhkgijbaa
open Go.RowKit

/-- A sample of its middle and its side. -/
def jn1 (m d : Int) : Smp := (m - d / 2 + d, m - d / 2)
def jn (ms ds : List Int) : List Smp := List.zipWith jn1 ms ds
def jnRes (ms ds : List Int) : List Smp := if vss (jn ms ds) then jn ms ds else []
def jnErr (ms ds : List Int) : Int := if vss (jn ms ds) then 0 else 4
theorem jn_len {ms ds : List Int} (h : ms.length = ds.length) : (jn ms ds).length = ds.length := by unfold jn; simp; omega
theorem jn_at {ms ds : List Int} {k : Nat} (hm : k < ms.length) (hd : k < ds.length) (h : k < (jn ms ds).length) : (jn ms ds)[k] = jn1 ms[k] ds[k] := List.getElem_zipWith (f := jn1) (l := ms) (l' := ds) (h := h)
/-- What a call leaves that returns samples and an error. -/
def SmpPost (w : World) (R : List Smp) (er : Int) (e : Ending) (w' : World) : Prop :=
  ∃ v, e = .returned (.tuple #[v, .int .i64 er]) ∧ w'.ownsRow w.heap.size 75 2 v R.length (smpCells R) ∧ Below w.heap.size w w'

set_option maxRecDepth 100000 in
set_option maxHeartbeats 4000000 in
theorem join_any (B : Nat) (Am Ad : Option Addr) (n km kd : Nat) (ms ds : List Int) (w : World) (hm : LI w B Am n ms) (hd : LI w B Ad n ds) (hB : B ≤ w.heap.size) (hn : n ≤ 4096) (wm : ∀ x ∈ ms, wib x 32767 = true) (wd : ∀ x ∈ ds, wib x 65534 = true) :
    Calls Try.prog 111 #[.slice Am n km, .slice Ad n kd] w (SmpPost w (jnRes ms ds) (jnErr ms ds)) := by
  have HM := Lib.hid (hm.more hB)
  have HD := Lib.hid (hd.more hB)
  have HNM := Lib.hid hm.1
  have HND := Lib.hid hd.1
  have WM := Lib.hid wm
  have WD := Lib.hid wd
  have HJL : Hid ((jn ms ds).length = n) := Lib.hid (by rw [jn_len (hm.1.symm.trans hd.1)]; exact hd.1.symm)
  obtain ⟨J, hJ⟩ : ∃ J, jn ms ds = J := ⟨_, rfl⟩
  have HJA : Hid (∀ k (h1 : k < ms.length) (h2 : k < ds.length) (h3 : k < J.length), J[k] = jn1 ms[k] ds[k]) := Lib.hid (by subst hJ; intro k h1 h2 h3; exact jn_at h1 h2 h3)
  have HR : Hid (jnRes ms ds = (if vss J then J else []) ∧ jnErr ms ds = if vss J then 0 else 4) := Lib.hid ⟨by unfold jnRes; rw [hJ], by unfold jnErr; rw [hJ]⟩
  obtain ⟨Rs, hRs⟩ : ∃ R, jnRes ms ds = R := ⟨_, rfl⟩
  obtain ⟨Re, hRe⟩ : ∃ R, jnErr ms ds = R := ⟨_, rfl⟩
  rw [hJ] at HJL
  rw [hRs, hRe] at HR ⊢
  clear hJ hRs hRe hm hd hB wm wd
  obtain ⟨i0, hi0, hz0, hz1, hz2⟩ := info_parts info_smp
  have hmk := fun W => run_make_rowN (P := Try.prog) 55 75 i0 _ Try.underlying55 hi0 hz0 .i64 .i64 0 n (Nat.zero_le _) (by rw [hz2]; omega) (by omega) W
  have HI0 := Lib.hid hi0
  have HZ0 := Lib.hid hz0
  have HZ1 := Lib.hid hz1
  have HZ2 := Lib.hid hz2
  rw [hz1] at hmk
  simp only [Int.natCast_zero] at hmk
  clear hi0 hz0 hz1 hz2
  go_enter Try.func111, Try.ntmps111
  go_wp2_with fail
  have hown : (w.alloc (.cells (madeCells #[.int .i64 0, .int .i64 0] (n * 2)) 75)).ownsRow w.heap.size 75 2 (.slice (some ⟨w.heap.size, 0, none⟩) 0 n) 0 [] :=
    World.ownsRow_made (base := w.heap.size) (e := 75) (size := 2) w (madeCells #[.int .i64 0, .int .i64 0] (n * 2)) n (Nat.le_refl _) (by unfold maxLen; omega) (by rw [size_madeCells])
  obtain ⟨W, hW⟩ : ∃ W, w.alloc (.cells (madeCells #[.int .i64 0, .int .i64 0] (n * 2)) 75) = W := ⟨_, rfl⟩
  have hbw : Below w.heap.size w W := by rw [← hW]; exact (Below.refl _ _).alloc (Nat.le_refl _) _
  rw [hW] at hown ⊢
  have HOW := Lib.hid hown
  have HBW := Lib.hid hbw
  clear hown hmk hW hbw
  go_loopw [6, 16] (fun vp i wr => ∃ (j : Nat) (sp : Value), j ≤ n ∧ i = .int .i64 j ∧ sp = vp ∧ Hid (wr.ownsRow w.heap.size 75 2 sp j (smpCells (J.take j))) ∧ Hid (vss (J.take j) = true) ∧ Hid (Below w.heap.size w wr)) (fun _ i wr => n - (intOf i).toNat)
  case atStart => exact ⟨0, _, Nat.zero_le _, rfl, rfl, HOW, Lib.hid rfl, HBW⟩
  case round =>
    clear HOW HBW
    obtain ⟨j, sp, hj, rfl, rfl, HO, HV, HB⟩ := hrel
    by_cases hlt : j < n
    · have hjm : j < ms.length := by have := HNM.out; omega
      have hjd : j < ds.length := by have := HND.out; omega
      have hjJ : j < J.length := by have := HJL.out; omega
      obtain ⟨am, hA1, -, h1⟩ := (HM.out.below HB.out (Nat.le_refl _)).at_ (k := j) hjm
      obtain ⟨ad, hA2, -, h2⟩ := (HD.out.below HB.out (Nat.le_refl _)).at_ (k := j) hjd
      obtain rfl := hA1
      obtain rfl := hA2
      obtain ⟨Ap, cp, rfl, -⟩ := own_reads HO.out
      have b1 := wib_bd (WM.out _ (List.getElem_mem hjm))
      have b2 := wib_bd (WD.out _ (List.getElem_mem hjd))
      have HJ := HJA.out j hjm hjd hjJ
      have HT := Lib.hid (vss_take J j hjJ)
      have HF := Lib.hid (vss_false J j hjJ)
      have HSN : Hid (smpCells (J.take (j + 1)) = smpCells (J.take j) ++ [.int .i64 J[j].1, .int .i64 J[j].2]) := Lib.hid (by rw [List.take_succ_eq_append_getElem hjJ, smpCells_snoc])
      rw [HJ] at HT HF HSN
      unfold jn1 at HT HF HSN
      dsimp only at HT HF HSN
      clear HJ
      obtain ⟨m, hm⟩ : ∃ m, ms[j] = m := ⟨_, rfl⟩
      obtain ⟨d, hd⟩ : ∃ d, ds[j] = d := ⟨_, rfl⟩
      rw [hm] at h1 b1 HT HF HSN
      rw [hd] at h2 b2 HT HF HSN
      obtain ⟨q, hq⟩ : ∃ q, d / 2 = q := ⟨_, rfl⟩
      rw [hq] at HT HF HSN
      have CH := Lib.hid (fun W => by
        have h := fhalf_any d W (by omega) (by omega)
        rw [hq] at h; exact h)
      obtain ⟨r, hr⟩ : ∃ r, m - q = r := ⟨_, rfl⟩
      rw [hr] at HT HF HSN
      obtain ⟨l, hl⟩ : ∃ l, r + d = l := ⟨_, rfl⟩
      rw [hl] at HT HF HSN
      have e1 : IntKind.i64.wrap (m - q) = r := by rw [hr]; exact IntWalk.i64_in _ (by omega)
      have e2 : IntKind.i64.wrap (r + d) = l := by rw [hl]; exact IntWalk.i64_in _ (by omega)
      clear hm hd hq hr hl b1 b2
      have k1 : wr.drew.cell? (am.add j) = some (.int .i64 m) := h1
      have hs0 := HB.out.size
      go_upto_region 5 with fail
      go_region_with (go_at_call 164; refine (CH.out _).mono ?_; rintro e w_ ⟨rfl, rfl⟩)
      all_goals
        clear h1 h2 k1
        go_upto_region 7 with fail
        obtain ⟨W1, hW1⟩ : ∃ W, wr.drew.alloc (.cells #[.int .i64 l, .int .i64 r] 75) = W := ⟨_, rfl⟩
        have HO1 : Hid (W1.ownsRow w.heap.size 75 2 (.slice Ap j cp) j (smpCells (J.take j))) := Lib.hid (by rw [← hW1]; exact HO.out.drew.alloc _)
        have HB1 : Hid (Below w.heap.size w W1) := Lib.hid (by rw [← hW1]; exact HB.out.drew.alloc hs0 _)
        have HP : Hid (Blk W1 wr.heap.size 75 #[.int .i64 l, .int .i64 r]) := Lib.hid (by rw [← hW1]; exact Blk.new _ _ _)
        first | rw [hW1] | (change Code.wp _ _ _ _ (wr.drew.alloc (.cells #[.int .i64 l, .int .i64 r] 75)); rw [hW1])
        clear hW1
        obtain ⟨gp, hgp⟩ : ∃ g, wr.heap.size = g := ⟨_, rfl⟩
        rw [hgp] at HP ⊢
        clear hgp
        have p0 : W1.cell? ⟨gp, 0, none⟩ = some (.int .i64 l) := (HP.out.cell 0).trans rfl
        have p1 : W1.cell? ⟨gp, 1, none⟩ = some (.int .i64 r) := (HP.out.cell 1).trans rfl
        cases hv : vs l r
        · obtain ⟨rfl, rfl⟩ : Rs = [] ∧ Re = 4 := by
            obtain ⟨g1, g2⟩ := HR.out
            rw [HF.out hv] at g1 g2
            exact ⟨g1, g2⟩
          have CV := Lib.hid (fun W => fvalidSample_any l r W)
          rw [hv] at CV
          clear hv
          go_wp2_with fail
          refine (CV.out _).mono ?_
          rintro e w2 ⟨rfl, hb⟩
          have HB2 := Lib.hid (HB1.out.trans (hb.mono HB1.out.size))
          clear hb
          go_wp2
          go_ret2
          exact ⟨_, rfl, World.ownsRow_nil _ _ _ _, HB2.out⟩
        · have HV2 : Hid (vss (J.take (j + 1)) = true) := Lib.hid (by rw [HT.out, HV.out, hv]; rfl)
          have CV := Lib.hid (fun W => fvalidSample_any l r W)
          rw [hv] at CV
          clear hv
          go_wp2_with fail
          refine (CV.out _).mono ?_
          rintro e w2 ⟨rfl, hb⟩
          have HB2 := Lib.hid (HB1.out.trans (hb.mono HB1.out.size))
          have HO2 := Lib.hid (own_below HO1.out hb)
          have HP2 := Lib.hid (HP.out.below hb HP.out.lt)
          have q0 : w2.cell? ⟨gp, 0, none⟩ = some (.int .i64 l) := (HP2.out.cell 0).trans rfl
          have q1 : w2.cell? ⟨gp, 1, none⟩ = some (.int .i64 r) := (HP2.out.cell 1).trans rfl
          clear hb p0 p1
          have hs2 := HB2.out.size
          go_wp2_with (at_builtin; refine wpList_append_any _ rfl (.tmp 36) (.tmp 38) _ rfl w.heap.size 75 i0 _ 2 16 Try.underlying55 HI0.out HZ0.out HZ1.out HZ2.out rfl (by omega) (.slice Ap j cp) j (smpCells (J.take j)) rfl (HO2.out.alloc _) (w2.heap.size + 1) (some ⟨w2.heap.size, 0, none⟩) 1 1 [.int .i64 l, .int .i64 r] rfl ⟨rfl, fun _ => ⟨_, rfl, Nat.lt_succ_self _, nine_new _ _ _⟩⟩ (by intro x hx; simp at hx; rcases hx with rfl | rfl <;> rfl) (by simp only [maxLen]; omega) (by omega) (by first | omega | (simp; omega)) ?_)
          intro vp w3 hop hgp hbp
          have HO3 : Hid (w3.ownsRow w.heap.size 75 2 vp (j + 1) (smpCells (J.take (j + 1)))) := Lib.hid (by rw [HSN.out]; exact hop)
          have HB3 : Hid (Below w.heap.size w w3) := Lib.hid ((HB2.out.alloc hs2 _).grown hgp (by simp; omega) fun k hk => (HO2.out.lt k hk).1)
          clear hop hgp hbp
          go_wp2
          go_roundw
          case rel => exact ⟨j + 1, vp, by omega, by go_num, rfl, HO3, HV2, HB3⟩
          case measure => simp [intOf]; omega
    · obtain rfl : j = n := by omega
      have hv := HV.out
      have ho := HO.out
      rw [List.take_of_length_le (by have := HJL.out; omega)] at hv ho
      obtain ⟨rfl, rfl⟩ : Rs = J ∧ Re = 0 := by
        obtain ⟨g1, g2⟩ := HR.out
        rw [hv] at g1 g2
        exact ⟨g1, g2⟩
      have HO2 : Hid (wr.ownsRow w.heap.size 75 2 sp Rs.length (smpCells Rs)) := Lib.hid (by rw [HJL.out]; exact ho)
      clear hv ho
      go_wp2
      go_ret2
      exact ⟨_, rfl, HO2.out, HB.out⟩
end Go.Proofs.Ytjaomjbhkgijbaa

/-
  The document's join and Join; Join; Split's checks.
-/
namespace Go.Proofs.Ytjaomjbhkgijbaa
open Go.RowKit

set_option maxRecDepth 100000 in
set_option maxHeartbeats 4000000 in
theorem refJoin1_any (B : Nat) (Am Ad : Option Addr) (n km kd : Nat) (ms ds : List Int) (w : World) (hm : LI w B Am n ms) (hd : LI w B Ad n ds) (hB : B ≤ w.heap.size) (hn : n ≤ 4096) (wm : ∀ x ∈ ms, wib x 32767 = true) (wd : ∀ x ∈ ds, wib x 65534 = true) :
    Calls Try.prog 112 #[.slice Am n km, .slice Ad n kd] w (SmpPost w (jnRes ms ds) (jnErr ms ds)) := by
  have HM := Lib.hid (hm.more hB)
  have HD := Lib.hid (hd.more hB)
  have HNM := Lib.hid hm.1
  have HND := Lib.hid hd.1
  have WM := Lib.hid wm
  have WD := Lib.hid wd
  have HJL : Hid ((jn ms ds).length = n) := Lib.hid (by rw [jn_len (hm.1.symm.trans hd.1)]; exact hd.1.symm)
  obtain ⟨J, hJ⟩ : ∃ J, jn ms ds = J := ⟨_, rfl⟩
  have HJA : Hid (∀ k (h1 : k < ms.length) (h2 : k < ds.length) (h3 : k < J.length), J[k] = jn1 ms[k] ds[k]) := Lib.hid (by subst hJ; intro k h1 h2 h3; exact jn_at h1 h2 h3)
  have HR : Hid (jnRes ms ds = (if vss J then J else []) ∧ jnErr ms ds = if vss J then 0 else 4) := Lib.hid ⟨by unfold jnRes; rw [hJ], by unfold jnErr; rw [hJ]⟩
  obtain ⟨Rs, hRs⟩ : ∃ R, jnRes ms ds = R := ⟨_, rfl⟩
  obtain ⟨Re, hRe⟩ : ∃ R, jnErr ms ds = R := ⟨_, rfl⟩
  rw [hJ] at HJL
  rw [hRs, hRe] at HR ⊢
  clear hJ hRs hRe hm hd hB wm wd
  obtain ⟨i0, hi0, hz0, hz1, hz2⟩ := info_parts info_smp
  have HI0 := Lib.hid hi0
  have HZ0 := Lib.hid hz0
  have HZ1 := Lib.hid hz1
  have HZ2 := Lib.hid hz2
  clear hi0 hz0 hz1 hz2
  go_enter Try.func112, Try.ntmps112
  go_wp2_with fail
  go_loopw [6, 7] (fun vp i wr => ∃ (j : Nat) (sp : Value), j ≤ n ∧ i = .int .i64 j ∧ sp = vp ∧ Hid (wr.ownsRow w.heap.size 75 2 sp j (smpCells (J.take j))) ∧ Hid (Below w.heap.size w wr)) (fun _ i wr => n - (intOf i).toNat)
  case atStart => exact ⟨0, _, Nat.zero_le _, rfl, rfl, Lib.hid (World.ownsRow_nil _ _ _ _), Lib.hid (Below.refl _ _)⟩
  case round =>
    obtain ⟨j, sp, hj, rfl, rfl, HO, HB⟩ := hrel
    by_cases hlt : j < n
    · have hjm : j < ms.length := by have := HNM.out; omega
      have hjd : j < ds.length := by have := HND.out; omega
      have hjJ : j < J.length := by have := HJL.out; omega
      obtain ⟨am, hA1, -, h1⟩ := (HM.out.below HB.out (Nat.le_refl _)).at_ (k := j) hjm
      obtain ⟨ad, hA2, -, h2⟩ := (HD.out.below HB.out (Nat.le_refl _)).at_ (k := j) hjd
      obtain rfl := hA1
      obtain rfl := hA2
      obtain ⟨Ap, cp, rfl, -⟩ := own_reads HO.out
      have b1 := wib_bd (WM.out _ (List.getElem_mem hjm))
      have b2 := wib_bd (WD.out _ (List.getElem_mem hjd))
      have HJ := HJA.out j hjm hjd hjJ
      have HSN : Hid (smpCells (J.take (j + 1)) = smpCells (J.take j) ++ [.int .i64 J[j].1, .int .i64 J[j].2]) := Lib.hid (by rw [List.take_succ_eq_append_getElem hjJ, smpCells_snoc])
      rw [HJ] at HSN
      unfold jn1 at HSN
      dsimp only at HSN
      clear HJ
      obtain ⟨m, hm⟩ : ∃ m, ms[j] = m := ⟨_, rfl⟩
      obtain ⟨d, hd⟩ : ∃ d, ds[j] = d := ⟨_, rfl⟩
      rw [hm] at h1 b1 HSN
      rw [hd] at h2 b2 HSN
      obtain ⟨q, hq⟩ : ∃ q, d / 2 = q := ⟨_, rfl⟩
      rw [hq] at HSN
      have CH := Lib.hid (fun W => by
        have h := refDown_any d 2 W (by omega) (by omega) (by omega) (by omega)
        rw [hq] at h; exact h)
      obtain ⟨r, hr⟩ : ∃ r, m - q = r := ⟨_, rfl⟩
      rw [hr] at HSN
      obtain ⟨l, hl⟩ : ∃ l, r + d = l := ⟨_, rfl⟩
      rw [hl] at HSN
      have e1 : IntKind.i64.wrap (m - q) = r := by rw [hr]; exact IntWalk.i64_in _ (by omega)
      have e2 : IntKind.i64.wrap (r + d) = l := by rw [hl]; exact IntWalk.i64_in _ (by omega)
      clear hm hd hq hr hl b1 b2
      have k1 : wr.drew.cell? (am.add j) = some (.int .i64 m) := h1
      have k2 : wr.drew.cell? (ad.add j) = some (.int .i64 d) := h2
      have hs0 := HB.out.size
      have HOD := Lib.hid HO.out.drew
      have HBD := Lib.hid HB.out.drew
      go_upto_region 5 with fail
      go_region_with (go_at_call 165; refine (CH.out _).mono ?_; rintro e w_ ⟨rfl, rfl⟩)
      all_goals
        go_wp2_with (at_builtin; refine wpList_append_any _ rfl (.tmp 25) (.tmp 34) _ rfl w.heap.size 75 i0 _ 2 16 Try.underlying55 HI0.out HZ0.out HZ1.out HZ2.out rfl (by omega) (.slice Ap j cp) j (smpCells (J.take j)) rfl (HOD.out.alloc _) (wr.heap.size + 1) (some ⟨wr.heap.size, 0, none⟩) 1 1 [.int .i64 l, .int .i64 r] rfl ⟨rfl, fun _ => ⟨_, rfl, Nat.lt_succ_self _, nine_new wr.drew _ _⟩⟩ (by intro x hx; simp at hx; rcases hx with rfl | rfl <;> rfl) (by simp only [maxLen]; omega) (by omega) (by first | omega | (simp; omega)) ?_)
        intro vp w3 hop hgp hbp
        have HO3 : Hid (w3.ownsRow w.heap.size 75 2 vp (j + 1) (smpCells (J.take (j + 1)))) := Lib.hid (by rw [HSN.out]; exact hop)
        have HB3 : Hid (Below w.heap.size w w3) := Lib.hid ((HBD.out.alloc hs0 _).grown hgp (by simp; omega) fun k hk => (HOD.out.lt k hk).1)
        clear hop hgp hbp
        go_wp2
        go_roundw
        case rel => exact ⟨j + 1, vp, by omega, by go_num, rfl, HO3, HB3⟩
        case measure => simp [intOf]; omega
    · obtain rfl : j = n := by omega
      have ho := HO.out
      rw [List.take_of_length_le (by have := HJL.out; omega)] at ho
      obtain ⟨Ap, cp, rfl, hrd⟩ := own_reads ho
      have CP := refProgramme_any wr.heap.size Ap j cp J wr ⟨HJL.out.symm, hrd⟩ (by omega)
      have hck : ckQ J = if vss J then 0 else 3 := by unfold ckQ; rw [if_neg (by have := HJL.out; omega)]
      rw [hck] at CP
      clear hck hrd
      cases hv : vss J
      · obtain ⟨rfl, rfl⟩ : Rs = [] ∧ Re = 4 := by
          obtain ⟨g1, g2⟩ := HR.out
          rw [hv] at g1 g2
          exact ⟨g1, g2⟩
        rw [hv] at CP
        have CP := Lib.hid CP
        clear hv ho HO
        go_wp2_with fail
        refine CP.out.mono ?_
        rintro e w_ ⟨rfl, rfl⟩
        go_wp2
        go_ret2
        exact ⟨_, rfl, World.ownsRow_nil _ _ _ _, HB.out⟩
      · obtain ⟨rfl, rfl⟩ : Rs = J ∧ Re = 0 := by
          obtain ⟨g1, g2⟩ := HR.out
          rw [hv] at g1 g2
          exact ⟨g1, g2⟩
        rw [hv] at CP
        have CP := Lib.hid CP
        have HO2 : Hid (wr.ownsRow w.heap.size 75 2 (.slice Ap j cp) Rs.length (smpCells Rs)) := Lib.hid (by rw [HJL.out]; exact ho)
        clear hv ho HO
        go_wp2_with fail
        refine CP.out.mono ?_
        rintro e w_ ⟨rfl, rfl⟩
        go_wp2
        go_ret2
        exact ⟨_, rfl, HO2.out, HB.out⟩
end Go.Proofs.Ytjaomjbhkgijbaa

