/-
  Join, and the document's Join.
-/
import Derived.Test.YtlghgehbmlgacaaQK
namespace Go.Proofs.Ytlghgehbmlgacaa
open Go.RowKit

def joR (ms ds : List Int) : List Smp := if ckSd ms ds = 0 then jnRes ms ds else []
def joE (ms ds : List Int) : Int := if ckSd ms ds = 0 then jnErr ms ds else ckSd ms ds
theorem ckSd_ok {ms ds : List Int} (h : ckSd ms ds = 0) : ms.length ≤ 4096 ∧ ms.length = ds.length ∧ (∀ x ∈ ms, wib x 32767 = true) ∧ (∀ x ∈ ds, wib x 65534 = true) := by
  unfold ckSd at h
  split at h
  · cases h
  · split at h
    · cases h
    · split at h
      · cases h
      · rename_i h1 h2 h3
        refine ⟨by omega, by omega, ?_, ?_⟩
        · cases e : wibs ms 32767 with
          | false => exact absurd (.inl e) h3
          | true => unfold wibs at e; exact List.all_eq_true.1 e
        · cases e : wibs ds 65534 with
          | false => exact absurd (.inr e) h3
          | true => unfold wibs at e; exact List.all_eq_true.1 e

set_option maxRecDepth 100000 in
set_option maxHeartbeats 4000000 in
theorem Join_any (B : Nat) (Am Ad : Option Addr) (nm km nd kd : Nat) (ms ds : List Int) (w : World) (hm : LI w B Am nm ms) (hd : LI w B Ad nd ds) (hB : B ≤ w.heap.size) (h1 : nm ≤ 9223372036854775807) (h2 : nd ≤ 9223372036854775807) :
    Calls Try.prog 37 #[.slice Am nm km, .slice Ad nd kd] w (SmpPost w (joR ms ds) (joE ms ds)) := by
  have HM := Lib.hid (hm.more hB)
  have HD := Lib.hid (hd.more hB)
  have CK := Lib.hid (checkSides_any B Am Ad nm km nd kd ms ds w hm hd hB h1 h2)
  by_cases hc : ckSd ms ds = 0
  · obtain ⟨c1, c2, c3, c4⟩ := ckSd_ok hc
    have e1 := hm.1
    have e2 := hd.1
    obtain rfl : nm = nd := by omega
    have CJ := Lib.hid (fun W (h : Below w.heap.size w W) => join_any w.heap.size Am Ad nm km kd ms ds W (HM.out.below h (Nat.le_refl _)) (HD.out.below h (Nat.le_refl _)) h.size (by omega) c3 c4)
    have HR : Hid (joR ms ds = jnRes ms ds ∧ joE ms ds = jnErr ms ds) := Lib.hid ⟨by unfold joR; rw [if_pos hc], by unfold joE; rw [if_pos hc]⟩
    rw [HR.out.1, HR.out.2]
    rw [hc] at CK
    clear hm hd hB c1 c2 c3 c4 e1 e2 hc HR
    go_enter Try.func37, Try.ntmps37
    go_wp2_with fail
    refine CK.out.mono ?_
    rintro e w1 ⟨rfl, hb⟩
    have HB := Lib.hid hb
    clear hb
    go_wp2_with fail
    refine (CJ.out _ HB.out).mono ?_
    rintro e w2 ⟨v, rfl, ho, hb⟩
    have HB2 := Lib.hid (HB.out.trans (hb.mono HB.out.size))
    have HO := Lib.hid (own_base_ ho HB.out.size)
    obtain ⟨A, c, rfl, -⟩ := own_reads ho
    clear ho hb
    go_wp2
    go_ret2
    exact ⟨_, rfl, HO.out, HB2.out⟩
  · obtain ⟨er, her⟩ : ∃ e, ckSd ms ds = e := ⟨_, rfl⟩
    rw [her] at hc CK
    have hc2 : (er != 0) = true := by simpa using hc
    have hc3 : (er == 0) = false := beq_eq_false_iff_ne.2 hc
    have HR : Hid (joR ms ds = [] ∧ joE ms ds = er) := Lib.hid ⟨by unfold joR; rw [her, if_neg hc], by unfold joE; rw [her, if_neg hc]⟩
    rw [HR.out.1, HR.out.2]
    clear hm hd hB HR her
    go_enter Try.func37, Try.ntmps37
    go_wp2_with fail
    refine CK.out.mono ?_
    rintro e w1 ⟨rfl, hb⟩
    have HB := Lib.hid hb
    clear hb
    go_wp2
    go_ret2
    exact ⟨_, rfl, World.ownsRow_nil _ _ _ _, HB.out⟩

set_option maxRecDepth 100000 in
set_option maxHeartbeats 4000000 in
theorem refJoin_any (B : Nat) (Am Ad : Option Addr) (nm km nd kd : Nat) (ms ds : List Int) (w : World) (hm : LI w B Am nm ms) (hd : LI w B Ad nd ds) (hB : B ≤ w.heap.size) (h1 : nm ≤ 9223372036854775807) (h2 : nd ≤ 9223372036854775807) :
    Calls Try.prog 38 #[.slice Am nm km, .slice Ad nd kd] w (SmpPost w (joR ms ds) (joE ms ds)) := by
  have HM := Lib.hid (hm.more hB)
  have HD := Lib.hid (hd.more hB)
  have e1 := hm.1
  have e2 := hd.1
  clear hm hd hB
  have FIN : ∀ er, ckSd ms ds = er → er ≠ 0 → joR ms ds = [] ∧ joE ms ds = er := fun er h h0 => ⟨by unfold joR; rw [h, if_neg h0], by unfold joE; rw [h, if_neg h0]⟩
  by_cases a1 : 4096 < nm
  · obtain ⟨g1, g2⟩ := FIN 6 (by unfold ckSd; rw [if_pos (by omega)]) (by omega)
    rw [g1, g2]
    clear FIN g1 g2 e1 e2
    go_enter Try.func38, Try.ntmps38
    go_wp2
    go_ret2
    exact ⟨_, rfl, World.ownsRow_nil _ _ _ _, Below.refl _ _⟩
  by_cases a2 : 4096 < nd
  · obtain ⟨g1, g2⟩ := FIN 6 (by unfold ckSd; rw [if_pos (by omega)]) (by omega)
    rw [g1, g2]
    clear FIN g1 g2 e1 e2
    go_enter Try.func38, Try.ntmps38
    go_wp2
    go_ret2
    exact ⟨_, rfl, World.ownsRow_nil _ _ _ _, Below.refl _ _⟩
  by_cases a3 : nm = nd
  case neg =>
    obtain ⟨g1, g2⟩ := FIN 17 (by unfold ckSd; rw [if_neg (by omega), if_pos (by omega)]) (by omega)
    rw [g1, g2]
    have q1 : ((nm : Int) != (nd : Int)) = true := by rw [bne_iff_ne]; omega
    have q2 : ((nm : Int) == (nd : Int)) = false := beq_eq_false_iff_ne.2 (by omega)
    clear FIN g1 g2 e1 e2
    go_enter Try.func38, Try.ntmps38
    go_wp2
    go_ret2
    exact ⟨_, rfl, World.ownsRow_nil _ _ _ _, Below.refl _ _⟩
  subst a3
  have q1 : ((nm : Int) != (nm : Int)) = false := by simp
  have hcs : ckSd ms ds = if wibs ms 32767 = false ∨ wibs ds 65534 = false then 3 else 0 := by unfold ckSd; rw [if_neg (by omega), if_neg (by omega)]
  have CS := refSignal_any w.heap.size Am nm km ms w HM.out (by omega)
  have hcx : ckX ms = if wibs ms 32767 then 0 else 3 := by unfold ckX; rw [if_neg (by omega)]
  rw [hcx] at CS
  cases hv1 : wibs ms 32767
  · obtain ⟨g1, g2⟩ := FIN 3 (by rw [hcs, hv1]; rfl) (by omega)
    rw [g1, g2]
    rw [hv1] at CS
    have CS := Lib.hid CS
    clear FIN g1 g2 e1 e2 hcs hcx hv1
    go_enter Try.func38, Try.ntmps38
    go_wp2_with fail
    refine CS.out.mono ?_
    rintro e w_ ⟨rfl, rfl⟩
    go_wp2
    go_ret2
    exact ⟨_, rfl, World.ownsRow_nil _ _ _ _, Below.refl _ _⟩
  · rw [hv1] at CS hcs
    have CS := Lib.hid CS
    have HBAD : Hid (wibs ds 65534 = false → joR ms ds = [] ∧ joE ms ds = 3) := Lib.hid (fun h => FIN 3 (by rw [hcs, h]; rfl) (by omega))
    have HOK : Hid (wibs ds 65534 = true → joR ms ds = jnRes ms ds ∧ joE ms ds = jnErr ms ds ∧ Calls Try.prog 72 #[.slice Am nm km, .slice Ad nm kd] w (SmpPost w (jnRes ms ds) (jnErr ms ds))) := Lib.hid (fun h => by
      have hc : ckSd ms ds = 0 := by rw [hcs, h]; rfl
      obtain ⟨c1, c2, c3, c4⟩ := ckSd_ok hc
      exact ⟨by unfold joR; rw [if_pos hc], by unfold joE; rw [if_pos hc], refJoin1_any w.heap.size Am Ad nm km kd ms ds w HM.out HD.out (Nat.le_refl _) (by omega) c3 c4⟩)
    have HND := Lib.hid e2
    obtain ⟨Rs, hRs⟩ : ∃ R, joR ms ds = R := ⟨_, rfl⟩
    obtain ⟨Re, hRe⟩ : ∃ R, joE ms ds = R := ⟨_, rfl⟩
    rw [hRs, hRe] at HBAD HOK ⊢
    clear FIN e1 e2 hcs hcx hv1 hRs hRe
    go_enter Try.func38, Try.ntmps38
    go_wp2_with fail
    refine CS.out.mono ?_
    rintro e w_ ⟨rfl, rfl⟩
    clear CS
    go_wp2_with fail
    go_loop [6] (fun i => ∃ k : Nat, k ≤ nm ∧ i = .int .i64 k ∧ Hid (wibs (ds.take k) 65534 = true)) (fun i => nm - (intOf i).toNat)
    case atStart => exact ⟨0, Nat.zero_le _, rfl, Lib.hid rfl⟩
    case round =>
      obtain ⟨k, hk, rfl, HV⟩ := hrel
      by_cases hlt : k < nm
      · have hx : k < ds.length := by have := HND.out; omega
        obtain ⟨ad, hA, _, p1⟩ := HD.out.at_ hx
        obtain rfl := hA
        have HT := Lib.hid (wibs_take ds 65534 k hx)
        have HF := Lib.hid (wibs_false ds 65534 k hx)
        obtain ⟨x, hxx⟩ : ∃ x, ds[k] = x := ⟨_, rfl⟩
        rw [hxx] at p1 HT HF
        clear hxx
        by_cases h1 : x < -65534
        · obtain ⟨rfl, rfl⟩ := HBAD.out (HF.out (wib_lo h1))
          go_wp2
          go_ret2
          exact ⟨_, rfl, World.ownsRow_nil _ _ _ _, Below.refl _ _⟩
        · by_cases h2 : 65534 < x
          · obtain ⟨rfl, rfl⟩ := HBAD.out (HF.out (wib_hi h2))
            go_wp2
            go_ret2
            exact ⟨_, rfl, World.ownsRow_nil _ _ _ _, Below.refl _ _⟩
          · go_wp2
            go_round
            case rel => exact ⟨k + 1, by omega, by go_num, Lib.hid (by rw [HT.out, HV.out, wib_in (by omega) (by omega)]; rfl)⟩
            case measure => simp [intOf]; omega
      · have h := HV.out
        rw [List.take_of_length_le (by have := HND.out; omega)] at h
        obtain ⟨rfl, rfl, CJ⟩ := HOK.out h
        have CJ := Lib.hid CJ
        clear h HOK HBAD
        go_wp2_with fail
        refine CJ.out.mono ?_
        rintro e w2 ⟨v, rfl, ho, hb⟩
        have HB2 := Lib.hid hb
        have HO := Lib.hid ho
        obtain ⟨A, c, rfl, -⟩ := own_reads ho
        clear ho hb
        go_wp2
        go_ret2
        exact ⟨_, rfl, HO.out, HB2.out⟩
end Go.Proofs.Ytlghgehbmlgacaa
