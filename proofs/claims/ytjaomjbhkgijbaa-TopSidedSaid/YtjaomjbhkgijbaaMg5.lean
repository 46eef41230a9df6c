/-
  Contracts of length and possible.
-/
import Derived.Test.YtjaomjbhkgijbaaMg4
import Derived.Deep.RegionHeld3

namespace Go.Proofs.Ytjaomjbhkgijbaa
open Go.RowKit

def lenP (R : List Pl) : Int := match R[R.length - 1]? with | some q => q.end_ | none => 0

set_option maxRecDepth 100000 in
set_option maxHeartbeats 2000000 in
theorem length_any (B : Nat) (A : Option Addr) (n c : Nat) (R : List Pl) (w : World) (h0 : RQ w B A n R) (hB : B ≤ w.heap.size) (h32 : R.length ≤ 32) (hq : ∀ q ∈ R, PlOk q) :
    Calls Try.prog 84 #[.slice A n c] w fun e w' => e = .returned (.int .i64 (lenP R)) ∧ Below w.heap.size w w' := by
  have H := Lib.hid (h0.more hB)
  obtain ⟨hn, -⟩ := h0
  cases n with
  | zero =>
    have hr : lenP R = 0 := by unfold lenP; rw [List.getElem?_eq_none (by omega)]
    have HR := Lib.hid hr
    clear hr hn
    go_enter Try.func84, Try.ntmps84
    go_wp2
    go_ret
    exact ⟨ret_i HR.out.symm, Below.refl _ _⟩
  | succ m =>
    have hm : m < R.length := by omega
    have hr : lenP R = (R[m]'hm).end_ := by
      unfold lenP
      rw [show R.length - 1 = m from by omega, List.getElem?_eq_getElem hm]
    have hok := hq _ (List.getElem_mem hm)
    obtain ⟨ad, hA, hbl, p0, p1, p2, p3, p4, p5, p6, p7, p8⟩ := H.out.at_ hm
    obtain rfl := hA
    have m32 : m ≤ 32 := by omega
    obtain ⟨q, hqq⟩ : ∃ q, q = R[m]'hm := ⟨_, rfl⟩
    rw [← hqq] at p0 p1 p2 p3 p4 p5 p6 p7 p8 hok hr
    have HR := Lib.hid hr
    have HOK := Lib.hid hok
    have m0 : ((m : Int) + 1 == 0) = false := beq_eq_false_iff_ne.2 (by omega)
    clear hr hok hqq hn hm hq h32 hB
    go_enter Try.func84, Try.ntmps84
    go_wp2_with fail
    refine (pend_any q _ HOK.out).mono ?_
    rintro e w1 ⟨rfl, hb1⟩
    go_wp2
    go_ret
    exact ⟨ret_i HR.out.symm, hb1⟩

/-- What 'possible' asks of the placed part i. -/
def pcA (q : Pl) : Bool := decide (q.st < 0) || decide (q.p.gp < -q.len)
def pcB (R : List Pl) (i : Nat) (q : Pl) : Bool := if i = 0 then false else match R[i - 1]? with | some r => decide (q.p.gp < -r.len) | none => false
def pcC (R : List Pl) (i : Nat) (q : Pl) : Bool := if i < 2 then false else match R[i - 2]? with | some r => decide (q.st < r.end_) | none => false
def pc (R : List Pl) (i : Nat) : Bool := match R[i]? with | some q => !pcA q && !pcB R i q && !pcC R i q | none => true
def poss (R : List Pl) : Bool := (List.range R.length).all (pc R) && decide (lenP R ≤ 4096)

theorem poss_false (R : List Pl) (k : Nat) (h : k < R.length) (hp : pc R k = false) : false = poss R := by
  unfold poss
  rw [show (List.range R.length).all (pc R) = false from by rw [List.all_eq_false]; exact ⟨k, List.mem_range.2 h, by simp [hp]⟩]; rfl
theorem range_all (R : List Pl) (k : Nat) (h1 : (List.range k).all (pc R) = true) (hp : pc R k = true) : (List.range (k + 1)).all (pc R) = true := by
  rw [List.range_succ, List.all_append, h1]; simp [hp]

set_option maxRecDepth 100000 in
set_option maxHeartbeats 8000000 in
theorem possible_any (B : Nat) (A : Option Addr) (n c : Nat) (R : List Pl) (w : World) (h0 : RQ w B A n R) (hB : B ≤ w.heap.size) (h32 : R.length ≤ 32) (hq : ∀ q ∈ R, PlOk q) :
    Calls Try.prog 92 #[.slice A n c] w fun e w' => e = .returned (.bool (poss R)) ∧ Below w.heap.size w w' := by
  have H := Lib.hid (h0.more hB)
  obtain ⟨hn, -⟩ := h0
  have HN := Lib.hid hn
  have n32 : n ≤ 32 := by omega
  have HQ := Lib.hid hq
  have H32 := Lib.hid h32
  clear hn hB hq h32
  go_enter Try.func92, Try.ntmps92
  go_wp2
  go_loopw [7] (fun i wr => ∃ k : Nat, k ≤ n ∧ i = .int .i64 k ∧ Below w.heap.size w wr ∧ Hid ((List.range k).all (pc R) = true)) (fun i wr => n - (intOf i).toNat)
  case atStart => exact ⟨0, Nat.zero_le _, rfl, Below.refl _ _, Lib.hid rfl⟩
  case round =>
    obtain ⟨k, hk, rfl, hb, hv⟩ := hrel
    by_cases hlt : k < n
    · have hkR : k < R.length := by have := HN.out; omega
      obtain ⟨ad, hA, hbl, p0, p1, p2, p3, p4, p5, p6, p7, p8⟩ := (H.out.below hb (Nat.le_refl _)).at_ hkR
      obtain rfl := hA
      have hok := HQ.out _ (List.getElem_mem hkR)
      obtain ⟨q, hqq⟩ : ∃ q, q = R[k]'hkR := ⟨_, rfl⟩
      rw [← hqq] at p0 p1 p2 p3 p4 p5 p6 p7 p8 hok
      have hpc : pc R k = (!pcA q && !pcB R k q && !pcC R k q) := by unfold pc; rw [List.getElem?_eq_getElem hkR, hqq]
      have HPC := Lib.hid hpc
      have HOK := Lib.hid hok
      have hlen : -4096 ≤ q.len ∧ q.len ≤ 4096 := by obtain ⟨⟨_, _, _, _, _⟩, _⟩ := hok; unfold Pl.len; omega
      obtain ⟨l1, l2⟩ := hlen
      clear hpc hok hqq
      have zz := hb.size
      by_cases a1 : q.st < 0
      · have A1 : decide (q.st < 0) = true := by simpa using a1
        have HA1 := Lib.hid A1
        go_wp2_with fail
        go_quiet (fail)
        go_wp2
        go_ret
        exact ⟨ret_b (poss_false R k hkR (by rw [HPC.out, pcA, HA1.out]; simp)), below_drewN_ (hb.alloc hb.size _) _⟩
      · have A1 : decide (q.st < 0) = false := by simpa using a1
        have HA1 := Lib.hid A1
        by_cases a2 : q.p.gp < -q.len
        all_goals
          have HA2 : Hid (decide (q.p.gp < -q.len) = _) := Lib.hid (by first | exact decide_eq_true a2 | exact decide_eq_false a2)
          have hwq : IntKind.i64.wrap (-q.len) = -q.len := IntWalk.i64_in _ (by omega)
          go_wp2_with fail
          go_region_held3 (fun w' => w'.cell? ⟨wr.heap.size, 0, none⟩ = some (.int .i64 q.p.tk) ∧ w'.cell? ⟨wr.heap.size, 1, none⟩ = some (.int .i64 q.p.fr) ∧ w'.cell? ⟨wr.heap.size, 2, none⟩ = some (.int .i64 q.p.to) ∧ w'.cell? ⟨wr.heap.size, 3, none⟩ = some (.int .i64 q.p.gp) ∧ w'.cell? ⟨wr.heap.size, 4, none⟩ = some (.int .i64 q.p.fi) ∧ w'.cell? ⟨wr.heap.size, 5, none⟩ = some (.int .i64 q.p.fo) ∧ w'.cell? ⟨wr.heap.size, 6, none⟩ = some (.int .i64 q.p.lv) ∧ w'.cell? ⟨wr.heap.size, 7, none⟩ = some (.int .i64 q.ix) ∧ w'.cell? ⟨wr.heap.size, 8, none⟩ = some (.int .i64 q.st)) (go_keep)
            (first | (go_at_call 150; refine (plen_any q _ HOK.out.1).mono ?_; rintro e w1 ⟨rfl, hb1⟩; have hblk := (Blk.new wr 117 #[.int .i64 q.p.tk, .int .i64 q.p.fr, .int .i64 q.p.to, .int .i64 q.p.gp, .int .i64 q.p.fi, .int .i64 q.p.fo, .int .i64 q.p.lv, .int .i64 q.ix, .int .i64 q.st]).drew.below hb1 (by simp); have HBK := Lib.hid hblk; have g0 := (hblk.cell 0).trans rfl; have g1 := (hblk.cell 1).trans rfl; have g2 := (hblk.cell 2).trans rfl; have g3 := (hblk.cell 3).trans rfl; have g4 := (hblk.cell 4).trans rfl; have g5 := (hblk.cell 5).trans rfl; have g6 := (hblk.cell 6).trans rfl; have g7 := (hblk.cell 7).trans rfl; have g8 := (hblk.cell 8).trans rfl))
          have hbw1 : Below w.heap.size w w1 := (hb.alloc hb.size _).drew.trans (hb1.mono (by simp; omega))
          clear hb1 hblk hwq
        · go_wp2
          go_ret
          exact ⟨ret_b (poss_false R k hkR (by rw [HPC.out, pcA, HA1.out, HA2.out]; simp)), hbw1⟩
        · have zz1 := hbw1.size
          have hwl : wr.heap.size < w1.heap.size := HBK.out.lt
          clear p0 p1 p2 p3 p4 p5 p6 p7 p8
          have HPA : Hid (pcA q = false) := Lib.hid (by rw [pcA, HA1.out, HA2.out]; rfl)
          by_cases k0 : k = 0
          · have K1 : decide ((1 : Int) ≤ (k : Int)) = false := by simp; omega
            have K2 : decide ((2 : Int) ≤ (k : Int)) = false := by simp; omega
            go_wp2
            go_quiet (fail)
            go_wp2
            go_quiet (fail)
            go_wp2
            go_roundw
            case rel => exact ⟨k + 1, by omega, by go_num, below_drewN_ hbw1 _, Lib.hid (range_all R k hv.out (by rw [HPC.out, HPA.out, pcB, if_pos k0, pcC, if_pos (by omega)]; rfl))⟩
            case measure => simp [intOf]; omega
          · obtain ⟨k1, hk1⟩ : ∃ k1 : Nat, (k : Int) - 1 = (k1 : Int) := ⟨k - 1, by omega⟩
            have hk1' : k - 1 = k1 := by omega
            have hk1R : k1 < R.length := by omega
            have hk1n : (k1 : Int) < (n : Int) := by omega
            have hk1p : (0 : Int) ≤ (k1 : Int) := by omega
            obtain ⟨ad1, hA1, hbl1, r0, r1, r2, r3, r4, r5, r6, r7, r8⟩ := (H.out.below hbw1 (Nat.le_refl _)).at_ hk1R
            obtain rfl := Option.some.inj hA1
            have hokr := HQ.out _ (List.getElem_mem hk1R)
            obtain ⟨r, hrr⟩ : ∃ r, r = R[k1]'hk1R := ⟨_, rfl⟩
            rw [← hrr] at r0 r1 r2 r3 r4 r5 r6 r7 r8 hokr
            have HPB : Hid (pcB R k q = decide (q.p.gp < -r.len)) := Lib.hid (by rw [pcB, if_neg k0, hk1', List.getElem?_eq_getElem hk1R, hrr])
            have HOKR := Lib.hid hokr
            have hlenr : -4096 ≤ r.len ∧ r.len ≤ 4096 := by obtain ⟨⟨_, _, _, _, _⟩, _⟩ := hokr; unfold Pl.len; omega
            obtain ⟨m1, m2⟩ := hlenr
            have K1 : decide ((1 : Int) ≤ (k : Int)) = true := by simp; omega
            have K0' := Lib.hid k0
            have HK1' := Lib.hid hk1'
            have HRR := Lib.hid hrr
            clear hokr hrr hk1' hA1 k0
            by_cases b1 : q.p.gp < -r.len
            all_goals
              have HB1 : Hid (decide (q.p.gp < -r.len) = _) := Lib.hid (by first | exact decide_eq_true b1 | exact decide_eq_false b1)
              have hwr : IntKind.i64.wrap (-r.len) = -r.len := IntWalk.i64_in _ (by omega)
              have hwk : IntKind.i64.wrap (k1 : Int) = (k1 : Int) := IntWalk.i64_in _ (by omega)
              go_wp2
              go_region_held3 (fun w' => w'.cell? ⟨wr.heap.size, 3, none⟩ = some (.int .i64 q.p.gp) ∧ w'.cell? (ad.add (k1 * 9)) = some (.int .i64 r.p.tk) ∧ w'.cell? ⟨(ad.add (k1 * 9)).block, (ad.add (k1 * 9)).off + 1, none⟩ = some (.int .i64 r.p.fr) ∧ w'.cell? ⟨(ad.add (k1 * 9)).block, (ad.add (k1 * 9)).off + 2, none⟩ = some (.int .i64 r.p.to) ∧ w'.cell? ⟨(ad.add (k1 * 9)).block, (ad.add (k1 * 9)).off + 3, none⟩ = some (.int .i64 r.p.gp) ∧ w'.cell? ⟨(ad.add (k1 * 9)).block, (ad.add (k1 * 9)).off + 4, none⟩ = some (.int .i64 r.p.fi) ∧ w'.cell? ⟨(ad.add (k1 * 9)).block, (ad.add (k1 * 9)).off + 5, none⟩ = some (.int .i64 r.p.fo) ∧ w'.cell? ⟨(ad.add (k1 * 9)).block, (ad.add (k1 * 9)).off + 6, none⟩ = some (.int .i64 r.p.lv) ∧ w'.cell? ⟨(ad.add (k1 * 9)).block, (ad.add (k1 * 9)).off + 7, none⟩ = some (.int .i64 r.ix) ∧ w'.cell? ⟨(ad.add (k1 * 9)).block, (ad.add (k1 * 9)).off + 8, none⟩ = some (.int .i64 r.st)) (go_keep)
                (first | (go_at_call 150; refine (plen_any r _ HOKR.out.1).mono ?_; rintro e w2 ⟨rfl, hb2⟩; have hblk := HBK.out.drew.below hb2 hwl; have HBK2 := Lib.hid hblk; have g0 := (hblk.cell 0).trans rfl; have g1 := (hblk.cell 1).trans rfl; have g2 := (hblk.cell 2).trans rfl; have g3 := (hblk.cell 3).trans rfl; have g4 := (hblk.cell 4).trans rfl; have g5 := (hblk.cell 5).trans rfl; have g6 := (hblk.cell 6).trans rfl; have g7 := (hblk.cell 7).trans rfl; have g8 := (hblk.cell 8).trans rfl; have hbw2 : Below w.heap.size w w2 := hbw1.drew.trans (hb2.mono zz1); obtain ⟨ad2, hA2, hbl2, s0, s1, s2, s3, s4, s5, s6, s7, s8⟩ := (H.out.below hbw2 (Nat.le_refl _)).at_ hk1R; obtain rfl := Option.some.inj hA2; rw [← HRR.out] at s0 s1 s2 s3 s4 s5 s6 s7 s8))
              clear hwr hwk
            · go_wp2
              go_ret
              exact ⟨ret_b (poss_false R k hkR (by rw [HPC.out, HPA.out, HPB.out, HB1.out]; simp)), hbw2⟩
            · have HPB0 : Hid (pcB R k q = false) := Lib.hid (by rw [HPB.out, HB1.out])
              have zz2 := hbw2.size
              have hwl2 : wr.heap.size < w2.heap.size := HBK2.out.lt
              by_cases k0 : k < 2
              · have K2 : decide ((2 : Int) ≤ (k : Int)) = false := by simp; omega
                go_wp2
                go_quiet (fail)
                go_wp2
                go_roundw
                case rel => exact ⟨k + 1, by omega, by go_num, below_drewN_ hbw2 _, Lib.hid (range_all R k hv.out (by rw [HPC.out, HPA.out, HPB0.out, pcC, if_pos k0]; rfl))⟩
                case measure => simp [intOf]; omega
              · obtain ⟨k2, hk2⟩ : ∃ k2 : Nat, (k : Int) - 2 = (k2 : Int) := ⟨k - 2, by omega⟩
                have hk2' : k - 2 = k2 := by omega
                have hk2R : k2 < R.length := by omega
                have hk2n : (k2 : Int) < (n : Int) := by omega
                have hk2p : (0 : Int) ≤ (k2 : Int) := by omega
                obtain ⟨ad3, hA3, hbl3, u0, u1, u2, u3, u4, u5, u6, u7, u8⟩ := (H.out.below hbw2 (Nat.le_refl _)).at_ hk2R
                obtain rfl := Option.some.inj hA3
                have hokv := HQ.out _ (List.getElem_mem hk2R)
                obtain ⟨v, hvv⟩ : ∃ v, v = R[k2]'hk2R := ⟨_, rfl⟩
                rw [← hvv] at u0 u1 u2 u3 u4 u5 u6 u7 u8 hokv
                have HPD : Hid (pcC R k q = decide (q.st < v.end_)) := Lib.hid (by rw [pcC, if_neg k0, hk2', List.getElem?_eq_getElem hk2R, hvv])
                have HOKV := Lib.hid hokv
                have HVV := Lib.hid hvv
                have K2 : decide ((2 : Int) ≤ (k : Int)) = true := by simp; omega
                clear hokv hvv hA3 r0 r1 r2 r3 r4 r5 r6 r7 r8 s0 s1 s2 s3 s4 s5 s6 s7 s8 hk1 hk1n hk1p hk2' k0
                by_cases d1 : q.st < v.end_
                all_goals
                  have HD1 : Hid (decide (q.st < v.end_) = _) := Lib.hid (by first | exact decide_eq_true d1 | exact decide_eq_false d1)
                  have hwk : IntKind.i64.wrap (k2 : Int) = (k2 : Int) := IntWalk.i64_in _ (by omega)
                  go_wp2
                  go_region_held3 (fun w' => w'.cell? ⟨wr.heap.size, 8, none⟩ = some (.int .i64 q.st) ∧ w'.cell? (ad.add (k2 * 9)) = some (.int .i64 v.p.tk) ∧ w'.cell? ⟨(ad.add (k2 * 9)).block, (ad.add (k2 * 9)).off + 1, none⟩ = some (.int .i64 v.p.fr) ∧ w'.cell? ⟨(ad.add (k2 * 9)).block, (ad.add (k2 * 9)).off + 2, none⟩ = some (.int .i64 v.p.to) ∧ w'.cell? ⟨(ad.add (k2 * 9)).block, (ad.add (k2 * 9)).off + 3, none⟩ = some (.int .i64 v.p.gp) ∧ w'.cell? ⟨(ad.add (k2 * 9)).block, (ad.add (k2 * 9)).off + 4, none⟩ = some (.int .i64 v.p.fi) ∧ w'.cell? ⟨(ad.add (k2 * 9)).block, (ad.add (k2 * 9)).off + 5, none⟩ = some (.int .i64 v.p.fo) ∧ w'.cell? ⟨(ad.add (k2 * 9)).block, (ad.add (k2 * 9)).off + 6, none⟩ = some (.int .i64 v.p.lv) ∧ w'.cell? ⟨(ad.add (k2 * 9)).block, (ad.add (k2 * 9)).off + 7, none⟩ = some (.int .i64 v.ix) ∧ w'.cell? ⟨(ad.add (k2 * 9)).block, (ad.add (k2 * 9)).off + 8, none⟩ = some (.int .i64 v.st)) (go_keep)
                    (first | (go_at_call 97; refine (pend_any v _ HOKV.out).mono ?_; rintro e w3 ⟨rfl, hb3⟩; have hblk := HBK2.out.drew.below hb3 hwl2; have HBK3 := Lib.hid hblk; have g0 := (hblk.cell 0).trans rfl; have g1 := (hblk.cell 1).trans rfl; have g2 := (hblk.cell 2).trans rfl; have g3 := (hblk.cell 3).trans rfl; have g4 := (hblk.cell 4).trans rfl; have g5 := (hblk.cell 5).trans rfl; have g6 := (hblk.cell 6).trans rfl; have g7 := (hblk.cell 7).trans rfl; have g8 := (hblk.cell 8).trans rfl; have hbw3 : Below w.heap.size w w3 := hbw2.drew.trans (hb3.mono zz2); obtain ⟨ad4, hA4, hbl4, s0, s1, s2, s3, s4, s5, s6, s7, s8⟩ := (H.out.below hbw3 (Nat.le_refl _)).at_ hk2R; obtain rfl := Option.some.inj hA4; rw [← HVV.out] at s0 s1 s2 s3 s4 s5 s6 s7 s8))
                  clear hwk
                · go_wp2
                  go_ret
                  exact ⟨ret_b (poss_false R k hkR (by rw [HPC.out, HPA.out, HPB0.out, HPD.out, HD1.out]; simp)), hbw3⟩
                · go_wp2
                  go_roundw
                  case rel => exact ⟨k + 1, by omega, by go_num, hbw3, Lib.hid (range_all R k hv.out (by rw [HPC.out, HPA.out, HPB0.out, HPD.out, HD1.out]; rfl))⟩
                  case measure => simp [intOf]; omega
    · have hall : (List.range R.length).all (pc R) = true := by rw [← HN.out, show n = k from by omega]; exact hv.out
      have HALL := Lib.hid hall
      clear hall
      by_cases hl : lenP R ≤ 4096
      all_goals
        obtain ⟨L, hL⟩ : ∃ L, lenP R = L := ⟨_, rfl⟩
        rw [hL] at hl
        have HL := Lib.hid hL
        clear hL
        go_wp2_with fail
        refine (length_any _ _ _ _ R _ (H.out.below hb (Nat.le_refl _)) hb.size H32.out HQ.out).mono ?_
        rintro e w1 ⟨rfl, hb1⟩
        rw [HL.out]
        go_wp2
        go_ret
        exact ⟨ret_b (by rw [poss, HALL.out, HL.out]; first | (simp; done) | (simp; omega)), hb.trans (hb1.mono hb.size)⟩
end Go.Proofs.Ytjaomjbhkgijbaa

/-
  Contract of CheckProgramme.
-/
namespace Go.Proofs.Ytjaomjbhkgijbaa
open Go.RowKit

theorem ckT_n (l : List TV) (h : ckT l = 0) (t : TV) (ht : t ∈ l) : t.n ≤ 4096 := by
  unfold ckT at h
  split at h
  · omega
  · rename_i hn
    split at h
    · omega
    · rename_i ha
      have hall : l.all vTake = true := by simpa using ha
      rw [List.all_eq_true] at hall
      have := hall t ht
      simp [vTake] at this
      omega
theorem prOk_of (l : List TV) (h : ckT l = 0) (p : Prt) (hp : vPart l p = true) : PrOk p := by
  unfold vPart at hp
  cases hg : l[p.tk.toNat]? with
  | none => rw [hg] at hp; simp at hp
  | some t =>
    rw [hg] at hp
    have ht := ckT_n l h t (List.mem_of_getElem? hg)
    simp [win] at hp
    unfold PrOk
    omega
theorem placeL_ok (ps : List Prt) (hp : ∀ p ∈ ps, PrOk p) : ∀ (i : Nat) (e : Int), -1000000 + 8192 * (ps.length : Int) ≤ e → e ≤ 1000000 - 8192 * (ps.length : Int) → ∀ q ∈ placeL ps i e, PlOk q := by
  induction ps with
  | nil => intro i e _ _ q hq; simp [placeL] at hq
  | cons x xs ih =>
    intro i e h1 h2 q hq
    have hx := hp x (by simp)
    obtain ⟨o1, o2, o3, o4, o5⟩ := hx
    simp only [List.length_cons] at h1 h2
    simp only [placeL, List.mem_cons] at hq
    rcases hq with rfl | hq
    · refine ⟨hp x (by simp), ?_, ?_⟩
      · show -1000000 ≤ e + x.gp; omega
      · show e + x.gp ≤ 1000000; omega
    · exact ih (fun p h => hp p (by simp [h])) _ _ (by omega) (by omega) q hq

/-- 0: fine · CheckTakes' error · 6: too many parts · 2: not valid · 15: not possible. -/
def ckP (l : List TV) (ps : List Prt) : Int :=
  if ckT l = 0 then (if 32 < ps.length then 6 else if ps.all (vPart l) = false then 2 else if poss (placeL ps 0 0) = false then 15 else 0) else ckT l

set_option maxRecDepth 100000 in
set_option maxHeartbeats 2000000 in
theorem CheckProgramme_any (B : Nat) (A A' : Option Addr) (n c n' c' : Nat) (l : List TV) (ps : List Prt) (w : World) (h0 : RT w B A n l) (g0 : RP w B A' n' ps) (hB : B ≤ w.heap.size)
    (hl : n ≤ 9223372036854775807) (hl' : n' ≤ 9223372036854775807) (hs : TSm l) :
    Calls Try.prog 23 #[.slice A n c, .slice A' n' c'] w fun e w' => e = .returned (.int .i64 (ckP l ps)) ∧ Below w.heap.size w w' := by
  have H := Lib.hid (h0.more hB)
  have G := Lib.hid (g0.more hB)
  have HS := Lib.hid hs
  obtain ⟨hn, -⟩ := g0
  have HN := Lib.hid hn
  clear hB hs h0 hn
  by_cases hc : ckT l = 0
  · have hr : ckP l ps = if 32 < ps.length then 6 else if ps.all (vPart l) = false then 2 else if poss (placeL ps 0 0) = false then 15 else 0 := by unfold ckP; rw [if_pos hc]
    have HC := Lib.hid hc
    have HR := Lib.hid hr
    clear hc hr
    by_cases h32 : 32 < n'
    · go_enter Try.func23, Try.ntmps23
      go_wp2_with fail
      refine (CheckTakes_any _ _ _ _ l _ H.out (Nat.le_refl _) hl HS.out).mono ?_
      rintro e w1 ⟨rfl, hb1⟩
      rw [HC.out]
      go_wp2
      go_ret
      exact ⟨ret_i (by rw [HR.out, if_pos (by have := HN.out; omega)]), hb1⟩
    · have HR2 : Hid (ckP l ps = if ps.all (vPart l) = false then 2 else if poss (placeL ps 0 0) = false then 15 else 0) := Lib.hid (by rw [HR.out, if_neg (by have := HN.out; omega)])
      go_enter Try.func23, Try.ntmps23
      go_wp2_with fail
      refine (CheckTakes_any _ _ _ _ l _ H.out (Nat.le_refl _) hl HS.out).mono ?_
      rintro e w1 ⟨rfl, hb1⟩
      rw [HC.out]
      go_wp2_with fail
      go_loopw [18] (fun i wr => ∃ k : Nat, k ≤ n' ∧ i = .int .i64 k ∧ Below w.heap.size w wr ∧ Hid ((ps.take k).all (vPart l) = true)) (fun i wr => n' - (intOf i).toNat)
      case atStart => exact ⟨0, Nat.zero_le _, rfl, hb1, Lib.hid rfl⟩
      case round =>
        clear hb1
        obtain ⟨k, hk, rfl, hb, hv⟩ := hrel
        have zz := hb.size
        by_cases hlt : k < n'
        · have hkR : k < ps.length := by have := HN.out; omega
          obtain ⟨ad, hA, hbl, p0, p1, p2, p3, p4, p5, p6⟩ := (G.out.below hb (Nat.le_refl _)).at_ hkR
          obtain rfl := hA
          obtain ⟨p, hpp⟩ : ∃ p, p = ps[k]'hkR := ⟨_, rfl⟩
          rw [← hpp] at p0 p1 p2 p3 p4 p5 p6
          have HPP := Lib.hid hpp
          clear hpp
          cases hx : vPart l p
          all_goals
            have HX := Lib.hid hx
            clear hx
            go_wp2_with fail
            refine (validPart_any _ _ _ _ l p _ (H.out.below (hb.alloc hb.size _) (Nat.le_refl _)) (by simp; omega)).mono ?_
            rintro e w2 ⟨rfl, hb2⟩
            rw [HX.out]
            have hbw : Below w.heap.size w w2 := (hb.alloc hb.size _).trans (hb2.mono (by simp; omega))
            clear hb2
            go_wp2
          · go_ret
            exact ⟨ret_i (by rw [HR2.out, show ps.all (vPart l) = false from by rw [List.all_eq_false]; exact ⟨_, List.getElem_mem hkR, by rw [← HPP.out, HX.out]; simp⟩]; rfl), hbw⟩
          · go_roundw
            case rel => exact ⟨k + 1, by omega, by go_num, hbw, Lib.hid (by rw [List.take_succ_eq_append_getElem hkR, List.all_append, hv.out, ← HPP.out]; simp [HX.out])⟩
            case measure => simp [intOf]; omega
        · have hall : ps.all (vPart l) = true := by
            have := hv.out
            rw [List.take_of_length_le (by have := HN.out; omega)] at this
            exact this
          have hpr : ∀ p ∈ ps, PrOk p := fun p hp => prOk_of l HC.out p (List.all_eq_true.1 hall p hp)
          have HALL := Lib.hid hall
          have HPR := Lib.hid hpr
          have h32' : ps.length ≤ 32 := by have := HN.out; omega
          have H32 := Lib.hid h32'
          have HOK : Hid (∀ q ∈ placeL ps 0 0, PlOk q) := Lib.hid (placeL_ok ps hpr 0 0 (by omega) (by omega))
          clear hall hpr h32'
          go_wp2_with fail
          refine (place_any _ _ _ _ ps _ (G.out.below hb (Nat.le_refl _)) hb.size H32.out HPR.out).mono ?_
          rintro e w2 ⟨A2, c2, rfl, hq, hb2⟩
          have HQ := Lib.hid hq
          have hbw : Below w.heap.size w w2 := hb.trans (hb2.mono hb.size)
          clear hq hb2
          cases hx : poss (placeL ps 0 0)
          all_goals
            have HX := Lib.hid hx
            clear hx
            go_wp2_with fail
            refine (possible_any _ _ _ _ (placeL ps 0 0) _ HQ.out (Nat.le_refl _) (by rw [placeL_length]; exact H32.out) HOK.out).mono ?_
            rintro e w3 ⟨rfl, hb3⟩
            rw [HX.out]
            go_wp2
            go_ret
            exact ⟨ret_i (by rw [HR2.out, HALL.out, HX.out]; rfl), hbw.trans (hb3.mono hbw.size)⟩
  · have hr : ckP l ps = ckT l := by unfold ckP; rw [if_neg hc]
    have hc1 : (ckT l == 0) = false := by simpa using hc
    have hc2 : (ckT l != 0) = true := by simpa using hc
    rw [hr]
    clear hc hr
    obtain ⟨q, hq⟩ : ∃ q, q = ckT l := ⟨_, rfl⟩
    rw [← hq] at hc1 hc2 ⊢
    have HQ := Lib.hid hq
    clear hq
    go_enter Try.func23, Try.ntmps23
    go_wp2_with fail
    refine (CheckTakes_any _ _ _ _ l _ H.out (Nat.le_refl _) hl HS.out).mono ?_
    rintro e w1 ⟨rfl, hb1⟩
    rw [← HQ.out]
    go_wp2
    go_ret
    exact ⟨rfl, hb1⟩
end Go.Proofs.Ytjaomjbhkgijbaa

