/-
  Join, and the document's Join.
-/
import Derived.Test.YtjaomjbhkgijbaaMg40
import Derived.Test.YtjaomjbhkgijbaaMg29
import Derived.Deep.RegionHeld3

namespace Go.Proofs.Ytjaomjbhkgijbaa
open Go.RowKit

def joR (ms ds : List Int) : List Smp := if ckSd ms ds = 0 then jnRes ms ds else []
def joE (ms ds : List Int) : Int := if ckSd ms ds = 0 then jnErr ms ds else ckSd ms ds
theorem ckSd_ok {ms ds : List Int} (h : ckSd ms ds = 0) : ms.length ≤ 4096 ∧ ms.length = ds.length ∧ (∀ x ∈ ms, wib x 32767 = true) ∧ (∀ x ∈ ds, wib x 65534 = true) := by
  unfold ckSd at h
  split at h
  · cases h
  · split at h
    · cases h
    · split at h
      · cases h
      · rename_i h1 h2 h3
        refine ⟨by omega, by omega, ?_, ?_⟩
        · cases e : wibs ms 32767 with
          | false => exact absurd (.inl e) h3
          | true => unfold wibs at e; exact List.all_eq_true.1 e
        · cases e : wibs ds 65534 with
          | false => exact absurd (.inr e) h3
          | true => unfold wibs at e; exact List.all_eq_true.1 e

set_option maxRecDepth 100000 in
set_option maxHeartbeats 4000000 in
theorem Join_any (B : Nat) (Am Ad : Option Addr) (nm km nd kd : Nat) (ms ds : List Int) (w : World) (hm : LI w B Am nm ms) (hd : LI w B Ad nd ds) (hB : B ≤ w.heap.size) (h1 : nm ≤ 9223372036854775807) (h2 : nd ≤ 9223372036854775807) :
    Calls Try.prog 44 #[.slice Am nm km, .slice Ad nd kd] w (SmpPost w (joR ms ds) (joE ms ds)) := by
  have HM := Lib.hid (hm.more hB)
  have HD := Lib.hid (hd.more hB)
  have CK := Lib.hid (checkSides_any B Am Ad nm km nd kd ms ds w hm hd hB h1 h2)
  by_cases hc : ckSd ms ds = 0
  · obtain ⟨c1, c2, c3, c4⟩ := ckSd_ok hc
    have e1 := hm.1
    have e2 := hd.1
    obtain rfl : nm = nd := by omega
    have CJ := Lib.hid (fun W (h : Below w.heap.size w W) => join_any w.heap.size Am Ad nm km kd ms ds W (HM.out.below h (Nat.le_refl _)) (HD.out.below h (Nat.le_refl _)) h.size (by omega) c3 c4)
    have HR : Hid (joR ms ds = jnRes ms ds ∧ joE ms ds = jnErr ms ds) := Lib.hid ⟨by unfold joR; rw [if_pos hc], by unfold joE; rw [if_pos hc]⟩
    rw [HR.out.1, HR.out.2]
    rw [hc] at CK
    clear hm hd hB c1 c2 c3 c4 e1 e2 hc HR
    go_enter Try.func44, Try.ntmps44
    go_wp2_with fail
    refine CK.out.mono ?_
    rintro e w1 ⟨rfl, hb⟩
    have HB := Lib.hid hb
    clear hb
    go_wp2_with fail
    refine (CJ.out _ HB.out).mono ?_
    rintro e w2 ⟨v, rfl, ho, hb⟩
    have HB2 := Lib.hid (HB.out.trans (hb.mono HB.out.size))
    have HO := Lib.hid (own_base_ ho HB.out.size)
    obtain ⟨A, c, rfl, -⟩ := own_reads ho
    clear ho hb
    go_wp2
    go_ret2
    exact ⟨_, rfl, HO.out, HB2.out⟩
  · obtain ⟨er, her⟩ : ∃ e, ckSd ms ds = e := ⟨_, rfl⟩
    rw [her] at hc CK
    have hc2 : (er != 0) = true := by simpa using hc
    have hc3 : (er == 0) = false := beq_eq_false_iff_ne.2 hc
    have HR : Hid (joR ms ds = [] ∧ joE ms ds = er) := Lib.hid ⟨by unfold joR; rw [her, if_neg hc], by unfold joE; rw [her, if_neg hc]⟩
    rw [HR.out.1, HR.out.2]
    clear hm hd hB HR her
    go_enter Try.func44, Try.ntmps44
    go_wp2_with fail
    refine CK.out.mono ?_
    rintro e w1 ⟨rfl, hb⟩
    have HB := Lib.hid hb
    clear hb
    go_wp2
    go_ret2
    exact ⟨_, rfl, World.ownsRow_nil _ _ _ _, HB.out⟩

set_option maxRecDepth 100000 in
set_option maxHeartbeats 4000000 in
theorem refJoin_any (B : Nat) (Am Ad : Option Addr) (nm km nd kd : Nat) (ms ds : List Int) (w : World) (hm : LI w B Am nm ms) (hd : LI w B Ad nd ds) (hB : B ≤ w.heap.size) (h1 : nm ≤ 9223372036854775807) (h2 : nd ≤ 9223372036854775807) :
    Calls Try.prog 45 #[.slice Am nm km, .slice Ad nd kd] w (SmpPost w (joR ms ds) (joE ms ds)) := by
  have HM := Lib.hid (hm.more hB)
  have HD := Lib.hid (hd.more hB)
  have e1 := hm.1
  have e2 := hd.1
  clear hm hd hB
  have FIN : ∀ er, ckSd ms ds = er → er ≠ 0 → joR ms ds = [] ∧ joE ms ds = er := fun er h h0 => ⟨by unfold joR; rw [h, if_neg h0], by unfold joE; rw [h, if_neg h0]⟩
  by_cases a1 : 4096 < nm
  · obtain ⟨g1, g2⟩ := FIN 6 (by unfold ckSd; rw [if_pos (by omega)]) (by omega)
    rw [g1, g2]
    clear FIN g1 g2 e1 e2
    go_enter Try.func45, Try.ntmps45
    go_wp2
    go_ret2
    exact ⟨_, rfl, World.ownsRow_nil _ _ _ _, Below.refl _ _⟩
  by_cases a2 : 4096 < nd
  · obtain ⟨g1, g2⟩ := FIN 6 (by unfold ckSd; rw [if_pos (by omega)]) (by omega)
    rw [g1, g2]
    clear FIN g1 g2 e1 e2
    go_enter Try.func45, Try.ntmps45
    go_wp2
    go_ret2
    exact ⟨_, rfl, World.ownsRow_nil _ _ _ _, Below.refl _ _⟩
  by_cases a3 : nm = nd
  case neg =>
    obtain ⟨g1, g2⟩ := FIN 17 (by unfold ckSd; rw [if_neg (by omega), if_pos (by omega)]) (by omega)
    rw [g1, g2]
    have q1 : ((nm : Int) != (nd : Int)) = true := by rw [bne_iff_ne]; omega
    have q2 : ((nm : Int) == (nd : Int)) = false := beq_eq_false_iff_ne.2 (by omega)
    clear FIN g1 g2 e1 e2
    go_enter Try.func45, Try.ntmps45
    go_wp2
    go_ret2
    exact ⟨_, rfl, World.ownsRow_nil _ _ _ _, Below.refl _ _⟩
  subst a3
  have q1 : ((nm : Int) != (nm : Int)) = false := by simp
  have hcs : ckSd ms ds = if wibs ms 32767 = false ∨ wibs ds 65534 = false then 3 else 0 := by unfold ckSd; rw [if_neg (by omega), if_neg (by omega)]
  have CS := refSignal_any w.heap.size Am nm km ms w HM.out (by omega)
  have hcx : ckX ms = if wibs ms 32767 then 0 else 3 := by unfold ckX; rw [if_neg (by omega)]
  rw [hcx] at CS
  cases hv1 : wibs ms 32767
  · obtain ⟨g1, g2⟩ := FIN 3 (by rw [hcs, hv1]; rfl) (by omega)
    rw [g1, g2]
    rw [hv1] at CS
    have CS := Lib.hid CS
    clear FIN g1 g2 e1 e2 hcs hcx hv1
    go_enter Try.func45, Try.ntmps45
    go_wp2_with fail
    refine CS.out.mono ?_
    rintro e w_ ⟨rfl, rfl⟩
    go_wp2
    go_ret2
    exact ⟨_, rfl, World.ownsRow_nil _ _ _ _, Below.refl _ _⟩
  · rw [hv1] at CS hcs
    have CS := Lib.hid CS
    have HBAD : Hid (wibs ds 65534 = false → joR ms ds = [] ∧ joE ms ds = 3) := Lib.hid (fun h => FIN 3 (by rw [hcs, h]; rfl) (by omega))
    have HOK : Hid (wibs ds 65534 = true → joR ms ds = jnRes ms ds ∧ joE ms ds = jnErr ms ds ∧ Calls Try.prog 112 #[.slice Am nm km, .slice Ad nm kd] w (SmpPost w (jnRes ms ds) (jnErr ms ds))) := Lib.hid (fun h => by
      have hc : ckSd ms ds = 0 := by rw [hcs, h]; rfl
      obtain ⟨c1, c2, c3, c4⟩ := ckSd_ok hc
      exact ⟨by unfold joR; rw [if_pos hc], by unfold joE; rw [if_pos hc], refJoin1_any w.heap.size Am Ad nm km kd ms ds w HM.out HD.out (Nat.le_refl _) (by omega) c3 c4⟩)
    have HND := Lib.hid e2
    obtain ⟨Rs, hRs⟩ : ∃ R, joR ms ds = R := ⟨_, rfl⟩
    obtain ⟨Re, hRe⟩ : ∃ R, joE ms ds = R := ⟨_, rfl⟩
    rw [hRs, hRe] at HBAD HOK ⊢
    clear FIN e1 e2 hcs hcx hv1 hRs hRe
    go_enter Try.func45, Try.ntmps45
    go_wp2_with fail
    refine CS.out.mono ?_
    rintro e w_ ⟨rfl, rfl⟩
    clear CS
    go_wp2_with fail
    go_loop [6] (fun i => ∃ k : Nat, k ≤ nm ∧ i = .int .i64 k ∧ Hid (wibs (ds.take k) 65534 = true)) (fun i => nm - (intOf i).toNat)
    case atStart => exact ⟨0, Nat.zero_le _, rfl, Lib.hid rfl⟩
    case round =>
      obtain ⟨k, hk, rfl, HV⟩ := hrel
      by_cases hlt : k < nm
      · have hx : k < ds.length := by have := HND.out; omega
        obtain ⟨ad, hA, _, p1⟩ := HD.out.at_ hx
        obtain rfl := hA
        have HT := Lib.hid (wibs_take ds 65534 k hx)
        have HF := Lib.hid (wibs_false ds 65534 k hx)
        obtain ⟨x, hxx⟩ : ∃ x, ds[k] = x := ⟨_, rfl⟩
        rw [hxx] at p1 HT HF
        clear hxx
        by_cases h1 : x < -65534
        · obtain ⟨rfl, rfl⟩ := HBAD.out (HF.out (wib_lo h1))
          go_wp2
          go_ret2
          exact ⟨_, rfl, World.ownsRow_nil _ _ _ _, Below.refl _ _⟩
        · by_cases h2 : 65534 < x
          · obtain ⟨rfl, rfl⟩ := HBAD.out (HF.out (wib_hi h2))
            go_wp2
            go_ret2
            exact ⟨_, rfl, World.ownsRow_nil _ _ _ _, Below.refl _ _⟩
          · go_wp2
            go_round
            case rel => exact ⟨k + 1, by omega, by go_num, Lib.hid (by rw [HT.out, HV.out, wib_in (by omega) (by omega)]; rfl)⟩
            case measure => simp [intOf]; omega
      · have h := HV.out
        rw [List.take_of_length_le (by have := HND.out; omega)] at h
        obtain ⟨rfl, rfl, CJ⟩ := HOK.out h
        have CJ := Lib.hid CJ
        clear h HOK HBAD
        go_wp2_with fail
        refine CJ.out.mono ?_
        rintro e w2 ⟨v, rfl, ho, hb⟩
        have HB2 := Lib.hid hb
        have HO := Lib.hid ho
        obtain ⟨A, c, rfl, -⟩ := own_reads ho
        clear ho hb
        go_wp2
        go_ret2
        exact ⟨_, rfl, HO.out, HB2.out⟩
end Go.Proofs.Ytjaomjbhkgijbaa

/-
  The document's split.
-/
namespace Go.Proofs.Ytjaomjbhkgijbaa
open Go.RowKit

set_option maxRecDepth 100000 in
set_option maxHeartbeats 8000000 in
theorem refFSplit_any (B : Nat) (A : Option Addr) (n c : Nat) (xs : List Smp) (w : World) (h0 : RS w B A n xs) (hB : B ≤ w.heap.size) (hn : n ≤ 4096) (hv : vss xs = true) :
    Calls Try.prog 109 #[.slice A n c] w (SplitPost w n xs) := by
  have H := Lib.hid (h0.more hB)
  have HN := Lib.hid h0.1
  have HV := Lib.hid hv
  obtain ⟨i0, hi0, hz0, hz1, hz2⟩ := info_parts info_i64
  have HI0 := Lib.hid hi0
  have HZ0 := Lib.hid hz0
  have HZ1 := Lib.hid hz1
  have HZ2 := Lib.hid hz2
  clear h0 hB hv hi0 hz0 hz1 hz2
  go_enter Try.func109, Try.ntmps109
  go_wp2_with fail
  go_loopw [4, 5, 6] (fun vx vy i wr => ∃ (j : Nat) (sx sy : Value), j ≤ n ∧ i = .int .i64 j ∧ sx = vx ∧ sy = vy ∧ Hid (TR w wr sx j (spM (xs.take j)) sy j (spD (xs.take j)))) (fun _ _ i wr => n - (intOf i).toNat)
  case atStart => exact ⟨0, _, _, Nat.zero_le _, rfl, rfl, rfl, Lib.hid (TR.start w)⟩
  case round =>
    obtain ⟨j, sx, sy, hj, rfl, rfl, rfl, HT⟩ := hrel
    by_cases hlt : j < n
    · have hjl : j < xs.length := by have := HN.out; omega
      obtain ⟨ad, hA, hbl, h1, h2⟩ := (H.out.below HT.out.b (Nat.le_refl _)).at_ (k := j) hjl
      obtain rfl := hA
      obtain ⟨Ax, cx, rfl, -⟩ := own_readsU HT.out.ox
      obtain ⟨Ay, cy, rfl, -⟩ := own_readsU HT.out.oy
      have hbd := vs_bdQ (vss_at HV.out hjl)
      have HSM := Lib.hid (spM_snoc hjl)
      have HSD := Lib.hid (spD_snoc hjl)
      have CX : Hid (∀ W, Below w.heap.size w W → W.cell? (ad.add (j * 2)) = some (.int .i64 xs[j].1) ∧ W.cell? ⟨(ad.add (j * 2)).block, (ad.add (j * 2)).off + 1, none⟩ = some (.int .i64 xs[j].2)) := Lib.hid (fun W hW => by
        obtain ⟨ad', hA, _, g1, g2⟩ := (H.out.below hW (Nat.le_refl _)).at_ (k := j) hjl
        cases hA
        exact ⟨g1, g2⟩)
      obtain ⟨s, hs⟩ : ∃ s, xs[j] = s := ⟨_, rfl⟩
      rw [hs] at h1 h2 hbd HSM HSD CX
      clear hs
      obtain ⟨l, r⟩ := s
      dsimp only at h1 h2 hbd HSM HSD CX
      obtain ⟨d, hd⟩ : ∃ d, l - r = d := ⟨_, rfl⟩
      obtain ⟨q, hq⟩ : ∃ q, d / 2 = q := ⟨_, rfl⟩
      rw [hd, hq] at HSM
      rw [hd] at HSD
      have e1 : IntKind.i64.wrap (l - r) = d := by rw [hd]; exact IntWalk.i64_in _ (by omega)
      have e2 : IntKind.i64.wrap (r + q) = r + q := IntWalk.i64_in _ (by omega)
      have CH := Lib.hid (fun W => by
        have h := refDown_any d 2 W (by omega) (by omega) (by omega) (by omega)
        rw [hq] at h; exact h)
      clear hd hq hbd
      have hs0 := HT.out.b.size
      obtain ⟨k1, k2⟩ := CX.out wr.drew HT.out.b.drew
      go_upto_region 5 with fail
      go_quiet (fail)
      go_upto_region 6 with fail
      obtain ⟨W1, hW1⟩ : ∃ W, wr.drewN nq = W := ⟨_, rfl⟩
      have hb1 : Below wr.heap.size wr W1 := by rw [← hW1]; exact below_drewN_ (Below.refl _ _) _
      have HT1 := Lib.hid (HT.out.below hb1)
      rw [hW1]
      clear hW1 hb1 h1 h2 k1 k2
      obtain ⟨h1, h2⟩ := CX.out _ HT1.out.b
      obtain ⟨k1, k2⟩ := CX.out _ HT1.out.b.drew
      have hs1 := HT1.out.b.size
      obtain ⟨l1, l2⟩ := CX.out _ (HT1.out.al (.cells #[.int .i64 d] 2)).b
      obtain ⟨m1, m2⟩ := CX.out _ (HT1.out.al (.cells #[.int .i64 d] 2)).b.drew
      clear l1 l2 m1 m2
      go_region_held3 (fun w' => w'.cell? ⟨(ad.add (j * 2)).block, (ad.add (j * 2)).off + 1, none⟩ = some (.int .i64 r))
        ((refine ?_ <;> (repeat (with_reducible (first | refine cell_al _ ?_ | refine cell_dr ?_))) <;> (with_reducible assumption)))
        (first | (refine step_append_any _ rfl (.tmp 25) (.tmp 34) 41 rfl w.heap.size 2 i0 _ 1 8 Try.underlying41 HI0.out HZ0.out HZ1.out HZ2.out rfl (by omega) (.slice Ax j cx) j (nums (spM (xs.take j))) rfl ((HT1.out.al (.cells #[.int .i64 (r + q)] 2)).dr).ox _ (some ⟨W1.heap.size, 0, none⟩) 1 1 [.int .i64 (r + q)] rfl (reads_cells (B := W1.heap.size + 1) (blk_dr rfl) (Nat.lt_succ_self _) rfl rfl) (by intro x hx; simp at hx; subst hx; rfl) (by unfold maxLen; omega) (by omega) ((HT1.out.al (.cells #[.int .i64 (r + q)] 2)).dr).b.size ?_; intro va w6 hoa hga hba; have hoa' : w6.ownsRow w.heap.size 2 1 va (j + 1) (nums (spM (xs.take (j + 1)))) := (by rw [HSM.out, nums_snoc]; exact hoa); have HT2 := Lib.hid (((HT1.out.al (.cells #[.int .i64 (r + q)] 2)).dr).setx hga hoa' (hba.imp id (fun h => by simpa using h))); obtain ⟨A6, c6, rfl, -⟩ := own_readsU hoa'; obtain ⟨g1, g2⟩ := CX.out _ HT2.out.b; clear hoa hoa' hga hba) | (refine step_append_any _ rfl (.tmp 25) (.tmp 34) 41 rfl w.heap.size 2 i0 _ 1 8 Try.underlying41 HI0.out HZ0.out HZ1.out HZ2.out rfl (by omega) (.slice Ax j cx) j (nums (spM (xs.take j))) rfl (((HT1.out.al (.cells #[.int .i64 (r + q)] 2)).al (.cells #[.int .i64 d] 2)).dr).ox _ (some ⟨W1.heap.size, 0, none⟩) 1 1 [.int .i64 (r + q)] rfl (reads_cells (B := W1.heap.size + 1) ((blk_al rfl).alloc _).drew (Nat.lt_succ_self _) rfl rfl) (by intro x hx; simp at hx; subst hx; rfl) (by unfold maxLen; omega) (by omega) (((HT1.out.al (.cells #[.int .i64 (r + q)] 2)).al (.cells #[.int .i64 d] 2)).dr).b.size ?_; intro va w6 hoa hga hba; have hoa' : w6.ownsRow w.heap.size 2 1 va (j + 1) (nums (spM (xs.take (j + 1)))) := (by rw [HSM.out, nums_snoc]; exact hoa); have HT2 := Lib.hid ((((HT1.out.al (.cells #[.int .i64 (r + q)] 2)).al (.cells #[.int .i64 d] 2)).dr).setx hga hoa' (hba.imp id (fun h => by simpa using h))); have HKO : Hid (Blk w6 (W1.heap.size + 1) 2 #[.int .i64 d]) := Lib.hid (Blk.grown (blk_dr (by simp)) hga (by intro e; have := (HT1.out.ox.lt _ e.symm).2; omega)); obtain ⟨A6, c6, rfl, -⟩ := own_readsU hoa'; obtain ⟨g1, g2⟩ := CX.out _ HT2.out.b; clear hoa hoa' hga hba) | (refine step_append_any _ rfl (.tmp 25) (.tmp 34) 41 rfl w.heap.size 2 i0 _ 1 8 Try.underlying41 HI0.out HZ0.out HZ1.out HZ2.out rfl (by omega) (.slice Ax j cx) j (nums (spM (xs.take j))) rfl (((HT1.out.al (.cells #[.int .i64 d] 2)).al (.cells #[.int .i64 (r + q)] 2)).dr).ox _ (some ⟨W1.heap.size + 1, 0, none⟩) 1 1 [.int .i64 (r + q)] rfl (reads_cells (B := W1.heap.size + 1 + 1) (blk_dr (by simp)) (Nat.lt_succ_self _) rfl rfl) (by intro x hx; simp at hx; subst hx; rfl) (by unfold maxLen; omega) (by omega) (((HT1.out.al (.cells #[.int .i64 d] 2)).al (.cells #[.int .i64 (r + q)] 2)).dr).b.size ?_; intro va w6 hoa hga hba; have hoa' : w6.ownsRow w.heap.size 2 1 va (j + 1) (nums (spM (xs.take (j + 1)))) := (by rw [HSM.out, nums_snoc]; exact hoa); have HT2 := Lib.hid ((((HT1.out.al (.cells #[.int .i64 d] 2)).al (.cells #[.int .i64 (r + q)] 2)).dr).setx hga hoa' (hba.imp id (fun h => by simpa using h))); have HKO : Hid (Blk w6 (W1.heap.size) 2 #[.int .i64 d]) := Lib.hid (Blk.grown ((blk_al rfl).alloc _).drew hga (by intro e; have := (HT1.out.ox.lt _ e.symm).2; omega)); obtain ⟨A6, c6, rfl, -⟩ := own_readsU hoa'; obtain ⟨g1, g2⟩ := CX.out _ HT2.out.b; clear hoa hoa' hga hba) | (refine step_append_any _ rfl (.tmp 36) (.tmp 38) 41 rfl w.heap.size 2 i0 _ 1 8 Try.underlying41 HI0.out HZ0.out HZ1.out HZ2.out rfl (by omega) (.slice Ay j cy) j (nums (spD (xs.take j))) rfl ((HT1.out.al (.cells #[.int .i64 d] 2)).dr).oy _ (some ⟨W1.heap.size, 0, none⟩) 1 1 [.int .i64 d] rfl (reads_cells (B := W1.heap.size + 1) (blk_dr rfl) (Nat.lt_succ_self _) rfl rfl) (by intro x hx; simp at hx; subst hx; rfl) (by unfold maxLen; omega) (by omega) ((HT1.out.al (.cells #[.int .i64 d] 2)).dr).b.size ?_; intro va w6 hoa hga hba; have hoa' : w6.ownsRow w.heap.size 2 1 va (j + 1) (nums (spD (xs.take (j + 1)))) := (by rw [HSD.out, nums_snoc]; exact hoa); have HT2 := Lib.hid (((HT1.out.al (.cells #[.int .i64 d] 2)).dr).sety hga hoa' (hba.imp id (fun h => by simpa using h))); obtain ⟨A6, c6, rfl, -⟩ := own_readsU hoa'; obtain ⟨g1, g2⟩ := CX.out _ HT2.out.b; clear hoa hoa' hga hba) | (refine step_append_any _ rfl (.tmp 36) (.tmp 38) 41 rfl w.heap.size 2 i0 _ 1 8 Try.underlying41 HI0.out HZ0.out HZ1.out HZ2.out rfl (by omega) (.slice Ay j cy) j (nums (spD (xs.take j))) rfl (((HT1.out.al (.cells #[.int .i64 d] 2)).al (.cells #[.int .i64 (r + q)] 2)).dr).oy _ (some ⟨W1.heap.size, 0, none⟩) 1 1 [.int .i64 d] rfl (reads_cells (B := W1.heap.size + 1) ((blk_al rfl).alloc _).drew (Nat.lt_succ_self _) rfl rfl) (by intro x hx; simp at hx; subst hx; rfl) (by unfold maxLen; omega) (by omega) (((HT1.out.al (.cells #[.int .i64 d] 2)).al (.cells #[.int .i64 (r + q)] 2)).dr).b.size ?_; intro va w6 hoa hga hba; have hoa' : w6.ownsRow w.heap.size 2 1 va (j + 1) (nums (spD (xs.take (j + 1)))) := (by rw [HSD.out, nums_snoc]; exact hoa); have HT2 := Lib.hid ((((HT1.out.al (.cells #[.int .i64 d] 2)).al (.cells #[.int .i64 (r + q)] 2)).dr).sety hga hoa' (hba.imp id (fun h => by simpa using h))); have HKO : Hid (Blk w6 (W1.heap.size + 1) 2 #[.int .i64 (r + q)]) := Lib.hid (Blk.grown (blk_dr (by simp)) hga (by intro e; have := (HT1.out.oy.lt _ e.symm).2; omega)); obtain ⟨A6, c6, rfl, -⟩ := own_readsU hoa'; obtain ⟨g1, g2⟩ := CX.out _ HT2.out.b; clear hoa hoa' hga hba) | (refine step_append_any _ rfl (.tmp 36) (.tmp 38) 41 rfl w.heap.size 2 i0 _ 1 8 Try.underlying41 HI0.out HZ0.out HZ1.out HZ2.out rfl (by omega) (.slice Ay j cy) j (nums (spD (xs.take j))) rfl (((HT1.out.al (.cells #[.int .i64 (r + q)] 2)).al (.cells #[.int .i64 d] 2)).dr).oy _ (some ⟨W1.heap.size + 1, 0, none⟩) 1 1 [.int .i64 d] rfl (reads_cells (B := W1.heap.size + 1 + 1) (blk_dr (by simp)) (Nat.lt_succ_self _) rfl rfl) (by intro x hx; simp at hx; subst hx; rfl) (by unfold maxLen; omega) (by omega) (((HT1.out.al (.cells #[.int .i64 (r + q)] 2)).al (.cells #[.int .i64 d] 2)).dr).b.size ?_; intro va w6 hoa hga hba; have hoa' : w6.ownsRow w.heap.size 2 1 va (j + 1) (nums (spD (xs.take (j + 1)))) := (by rw [HSD.out, nums_snoc]; exact hoa); have HT2 := Lib.hid ((((HT1.out.al (.cells #[.int .i64 (r + q)] 2)).al (.cells #[.int .i64 d] 2)).dr).sety hga hoa' (hba.imp id (fun h => by simpa using h))); have HKO : Hid (Blk w6 (W1.heap.size) 2 #[.int .i64 (r + q)]) := Lib.hid (Blk.grown ((blk_al rfl).alloc _).drew hga (by intro e; have := (HT1.out.oy.lt _ e.symm).2; omega)); obtain ⟨A6, c6, rfl, -⟩ := own_readsU hoa'; obtain ⟨g1, g2⟩ := CX.out _ HT2.out.b; clear hoa hoa' hga hba) | (refine step_append_any _ rfl (.tmp 36) (.tmp 38) 41 rfl w.heap.size 2 i0 _ 1 8 Try.underlying41 HI0.out HZ0.out HZ1.out HZ2.out rfl (by omega) (.slice Ay j cy) j (nums (spD (xs.take j))) rfl (HT2.out).oy _ (some ⟨_, 0, none⟩) 1 1 [.int .i64 d] rfl (reads_cells (B := w6.heap.size) HKO.out HKO.out.lt rfl rfl) (by intro x hx; simp at hx; subst hx; rfl) (by unfold maxLen; omega) (by omega) (HT2.out).b.size ?_; intro vb w7 hob hgb hbb; have hob' : w7.ownsRow w.heap.size 2 1 vb (j + 1) (nums (spD (xs.take (j + 1)))) := (by rw [HSD.out, nums_snoc]; exact hob); have HTF := Lib.hid ((HT2.out).sety hgb hob' (hbb.imp id (fun h => by simpa using h))); obtain ⟨A7, c7, rfl, -⟩ := own_readsU hob'; obtain ⟨g3, g4⟩ := CX.out _ HTF.out.b; clear hob hob' hgb hbb) | (refine step_append_any _ rfl (.tmp 36) (.tmp 38) 41 rfl w.heap.size 2 i0 _ 1 8 Try.underlying41 HI0.out HZ0.out HZ1.out HZ2.out rfl (by omega) (.slice Ay j cy) j (nums (spD (xs.take j))) rfl ((HT2.out.al (.cells #[.int .i64 d] 2))).oy _ (some ⟨w6.heap.size, 0, none⟩) 1 1 [.int .i64 d] rfl (reads_cells (B := w6.heap.size + 1) (blk_al rfl) (Nat.lt_succ_self _) rfl rfl) (by intro x hx; simp at hx; subst hx; rfl) (by unfold maxLen; omega) (by omega) ((HT2.out.al (.cells #[.int .i64 d] 2))).b.size ?_; intro vb w7 hob hgb hbb; have hob' : w7.ownsRow w.heap.size 2 1 vb (j + 1) (nums (spD (xs.take (j + 1)))) := (by rw [HSD.out, nums_snoc]; exact hob); have HTF := Lib.hid (((HT2.out.al (.cells #[.int .i64 d] 2))).sety hgb hob' (hbb.imp id (fun h => by simpa using h))); obtain ⟨A7, c7, rfl, -⟩ := own_readsU hob'; obtain ⟨g3, g4⟩ := CX.out _ HTF.out.b; clear hob hob' hgb hbb) | (refine step_append_any _ rfl (.tmp 25) (.tmp 34) 41 rfl w.heap.size 2 i0 _ 1 8 Try.underlying41 HI0.out HZ0.out HZ1.out HZ2.out rfl (by omega) (.slice Ax j cx) j (nums (spM (xs.take j))) rfl (HT2.out).ox _ (some ⟨_, 0, none⟩) 1 1 [.int .i64 (r + q)] rfl (reads_cells (B := w6.heap.size) HKO.out HKO.out.lt rfl rfl) (by intro x hx; simp at hx; subst hx; rfl) (by unfold maxLen; omega) (by omega) (HT2.out).b.size ?_; intro vb w7 hob hgb hbb; have hob' : w7.ownsRow w.heap.size 2 1 vb (j + 1) (nums (spM (xs.take (j + 1)))) := (by rw [HSM.out, nums_snoc]; exact hob); have HTF := Lib.hid ((HT2.out).setx hgb hob' (hbb.imp id (fun h => by simpa using h))); obtain ⟨A7, c7, rfl, -⟩ := own_readsU hob'; obtain ⟨g3, g4⟩ := CX.out _ HTF.out.b; clear hob hob' hgb hbb) | (refine step_append_any _ rfl (.tmp 25) (.tmp 34) 41 rfl w.heap.size 2 i0 _ 1 8 Try.underlying41 HI0.out HZ0.out HZ1.out HZ2.out rfl (by omega) (.slice Ax j cx) j (nums (spM (xs.take j))) rfl ((HT2.out.al (.cells #[.int .i64 (r + q)] 2))).ox _ (some ⟨w6.heap.size, 0, none⟩) 1 1 [.int .i64 (r + q)] rfl (reads_cells (B := w6.heap.size + 1) (blk_al rfl) (Nat.lt_succ_self _) rfl rfl) (by intro x hx; simp at hx; subst hx; rfl) (by unfold maxLen; omega) (by omega) ((HT2.out.al (.cells #[.int .i64 (r + q)] 2))).b.size ?_; intro vb w7 hob hgb hbb; have hob' : w7.ownsRow w.heap.size 2 1 vb (j + 1) (nums (spM (xs.take (j + 1)))) := (by rw [HSM.out, nums_snoc]; exact hob); have HTF := Lib.hid (((HT2.out.al (.cells #[.int .i64 (r + q)] 2))).setx hgb hob' (hbb.imp id (fun h => by simpa using h))); obtain ⟨A7, c7, rfl, -⟩ := own_readsU hob'; obtain ⟨g3, g4⟩ := CX.out _ HTF.out.b; clear hob hob' hgb hbb) | (go_at_call 165; refine (CH.out _).mono ?_; rintro e w_ ⟨rfl, rfl⟩))
      all_goals
        go_wp2
        go_roundw
        case rel => exact ⟨j + 1, _, _, by omega, by go_num, rfl, rfl, HTF⟩
        case measure => simp [intOf]; omega
    · obtain rfl : j = n := by omega
      have HT1 := HT.out
      rw [List.take_of_length_le (by have := HN.out; omega)] at HT1
      go_wp2
      go_ret2
      exact ⟨_, _, rfl, HT1⟩
end Go.Proofs.Ytjaomjbhkgijbaa

