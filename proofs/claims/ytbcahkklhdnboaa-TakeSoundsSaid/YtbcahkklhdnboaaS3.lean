/-
  Contracts of Starts, both.
-/
import Derived.Test.YtbcahkklhdnboaaG4
import Derived.Test.YtbcahkklhdnboaaCM
import Derived.Test.YtbcahkklhdnboaaQ0
namespace Go.Proofs.Ytbcahkklhdnboaa
open Go.RowKit

/-- The parts whose beginnings Starts tells. -/
def stsR (l : List TV) (ps : List Prt) : List Pl := if ckP l ps = 0 then placeL ps 0 0 else []
def StsPost (w : World) (er : Int) (R : List Pl) (e : Ending) (w' : World) : Prop :=
  ∃ A c, e = .returned (.tuple #[.slice A R.length c, .int .i64 (lenP R), .int .i64 er]) ∧ Reads w' w'.heap.size 1 A R.length (stCells R) ∧ Below w.heap.size w w'
theorem sts_nil {w w' : World} {er : Int} (hb : Below w.heap.size w w') : StsPost w er [] (.returned (.tuple #[.slice none 0 0, .int .i64 0, .int .i64 er])) w' :=
  ⟨none, 0, rfl, Reads.none_, hb⟩

set_option maxRecDepth 100000 in
set_option maxHeartbeats 4000000 in
theorem refStartsAll_any (B : Nat) (A A' : Option Addr) (n c n' c' : Nat) (l : List TV) (ps : List Prt) (w : World) (h0 : RT w B A n l) (g0 : RP w B A' n' ps) (hB : B ≤ w.heap.size)
    (hl : n ≤ 9223372036854775807) (hl' : n' ≤ 9223372036854775807) (hs : TSm l) (hi : I64t l) :
    Calls Try.prog 15 #[.slice A n c, .slice A' n' c'] w (StsPost w (ckP l ps) (stsR l ps)) := by
  have H := Lib.hid (h0.more hB)
  have G := Lib.hid (g0.more hB)
  have HS := Lib.hid hs
  have HI := Lib.hid hi
  clear hB hs hi h0 g0
  by_cases hc : ckP l ps = 0
  · have hr : stsR l ps = placeL ps 0 0 := by unfold stsR; rw [if_pos hc]
    obtain ⟨z1, z2, z3, z4⟩ := ckP_zero l ps hc
    have HPR : Hid (∀ p ∈ ps, PrOk p) := Lib.hid (fun p hp => prOk_of l z1 p (List.all_eq_true.1 z3 p hp))
    have H32 := Lib.hid z2
    rw [hr, hc]
    have HC := Lib.hid hc
    clear hc hr z1 z2 z3 z4
    go_enter Try.func15, Try.ntmps15
    go_wp2_with fail
    refine (refCheckProgramme_any _ _ _ _ _ _ _ l ps _ H.out G.out (Nat.le_refl _) hl hl' HS.out HI.out).mono ?_
    rintro e w1 ⟨rfl, hb1⟩
    rw [HC.out]
    go_wp2_with fail
    refine (refStarts_any _ _ _ c' ps _ (G.out.below hb1 (Nat.le_refl _)) hb1.size H32.out HPR.out).mono ?_
    rintro e w2 ⟨A2, c2, rfl, hrd, hb2⟩
    have HRD := Lib.hid hrd
    have HBW := Lib.hid (hb1.trans (hb2.mono hb1.size))
    clear hrd hb1 hb2
    go_wp2
    go_ret3
    exact ⟨A2, c2, rfl, HRD.out, HBW.out⟩
  · have hr : stsR l ps = [] := by unfold stsR; rw [if_neg hc]
    rw [hr]
    have hc1 : (ckP l ps == 0) = false := by simpa using hc
    have hc2 : (ckP l ps != 0) = true := by simpa using hc
    clear hc hr
    obtain ⟨q, hq⟩ : ∃ q, q = ckP l ps := ⟨_, rfl⟩
    rw [← hq] at hc1 hc2 ⊢
    have HQ := Lib.hid hq
    clear hq
    go_enter Try.func15, Try.ntmps15
    go_wp2_with fail
    refine (refCheckProgramme_any _ _ _ _ _ _ _ l ps _ H.out G.out (Nat.le_refl _) hl hl' HS.out HI.out).mono ?_
    rintro e w1 ⟨rfl, hb1⟩
    rw [← HQ.out]
    go_wp2_with fail
    refine (refCheckProgramme_any _ _ _ _ _ _ _ l ps _ (H.out.below hb1 (Nat.le_refl _)) (G.out.below hb1 (Nat.le_refl _)) hb1.size hl hl' HS.out HI.out).mono ?_
    rintro e w2 ⟨rfl, hb2⟩
    rw [← HQ.out]
    have HBW := Lib.hid (hb1.trans (hb2.mono hb1.size))
    go_wp2
    go_ret3
    exact sts_nil HBW.out

set_option maxRecDepth 100000 in
set_option maxHeartbeats 4000000 in
theorem starts_any (B : Nat) (A A' : Option Addr) (n c n' c' : Nat) (l : List TV) (ps : List Prt) (w : World) (h0 : RT w B A n l) (g0 : RP w B A' n' ps) (hB : B ≤ w.heap.size)
    (hl : n ≤ 9223372036854775807) (hl' : n' ≤ 9223372036854775807) (hs : TSm l) :
    Calls Try.prog 14 #[.slice A n c, .slice A' n' c'] w (StsPost w (ckP l ps) (stsR l ps)) := by
  have H := Lib.hid (h0.more hB)
  have G := Lib.hid (g0.more hB)
  have HS := Lib.hid hs
  have HN : Hid (n' = ps.length) := Lib.hid g0.1
  clear hB hs h0 g0
  by_cases hc : ckP l ps = 0
  · have hr : stsR l ps = placeL ps 0 0 := by unfold stsR; rw [if_pos hc]
    obtain ⟨z1, z2, z3, z4⟩ := ckP_zero l ps hc
    have HPR : Hid (∀ p ∈ ps, PrOk p) := Lib.hid (fun p hp => prOk_of l z1 p (List.all_eq_true.1 z3 p hp))
    have HOK : Hid (∀ q ∈ placeL ps 0 0, PlOk q) := Lib.hid (placeL_ok ps HPR.out 0 0 (by omega) (by omega))
    have H32 := Lib.hid z2
    have HRL : Hid ((placeL ps 0 0).length = n') := Lib.hid (by rw [placeL_length]; exact HN.out.symm)
    have n32 : n' ≤ 32 := by have := HN.out; omega
    rw [hr, hc]
    have HC := Lib.hid hc
    clear hc hr z1 z2 z3 z4
    obtain ⟨R, hR⟩ : ∃ R, placeL ps 0 0 = R := ⟨_, rfl⟩
    rw [hR] at HOK HRL ⊢
    have HR := Lib.hid hR
    clear hR
    obtain ⟨i0, hi0, hz0, hz1, hz2⟩ := info_parts info_int
    have hmk := fun W => run_make_rowN (P := Try.prog) 26 3 i0 _ Try.underlying26 hi0 hz0 .i64 .i64 0 n' (Nat.zero_le _) (by rw [hz2]; omega) (by omega) W
    rw [hz1] at hmk
    simp only [Int.natCast_zero] at hmk
    have HI0 := Lib.hid hi0
    have HZ0 := Lib.hid hz0
    have HZ1 := Lib.hid hz1
    have HZ2 := Lib.hid hz2
    clear hi0 hz0 hz1 hz2
    go_enter Try.func14, Try.ntmps14
    go_wp2_with fail
    refine (CheckProgramme_any _ _ _ _ _ _ _ l ps _ H.out G.out (Nat.le_refl _) hl hl' HS.out).mono ?_
    rintro e w1 ⟨rfl, hb1⟩
    rw [HC.out]
    go_wp2_with fail
    refine (place_any _ _ _ _ ps _ (G.out.below hb1 (Nat.le_refl _)) hb1.size H32.out HPR.out).mono ?_
    rintro e w2 ⟨A2, c2, rfl, hq, hb2⟩
    rw [HR.out] at hq ⊢
    rw [HRL.out] at hq ⊢
    have HQ := Lib.hid hq
    have HBW := Lib.hid (hb1.trans (hb2.mono hb1.size))
    clear hq hb1 hb2
    go_wp2
    clear hmk
    go_loopw [9, 25] (fun v i wr => ∃ (k : Nat), k ≤ n' ∧ i = .int .i64 k ∧ wr.ownsRow w2.heap.size 3 1 v k (stCells (R.take k)) ∧ Below w2.heap.size w2 wr) (fun _ i _ => n' - (intOf i).toNat)
    case atStart =>
      exact ⟨0, Nat.zero_le _, rfl, World.ownsRow_made _ _ _ (Nat.le_refl _) (by unfold maxLen; omega) (by simp [size_madeCells]), (Below.refl _ _).alloc (Nat.le_refl _) _⟩
    case round =>
      obtain ⟨k, hk, rfl, hown, hb⟩ := hrel
      have HO := Lib.hid hown
      clear hown
      by_cases hlt : k < n'
      · have hkR : k < R.length := by have := HRL.out; omega
        obtain ⟨ad, hA, hbl, p0, p1, p2, p3, p4, p5, p6, p7, p8⟩ := (HQ.out.below hb (Nat.le_refl _)).at_ hkR
        obtain rfl := hA
        obtain ⟨q, hqq⟩ : ∃ q, q = R[k]'hkR := ⟨_, rfl⟩
        rw [← hqq] at p0 p1 p2 p3 p4 p5 p6 p7 p8
        have HQQ := Lib.hid hqq
        have zz := hb.size
        clear hqq
        go_wp2_with (at_builtin; refine wpList_append_own _ rfl (.tmp 29) (.tmp 32) _ rfl w2.heap.size 3 i0 _ 1 8 Try.underlying26 HI0.out HZ0.out HZ1.out HZ2.out rfl (by omega) _ k (stCells (R.take k)) rfl ((HO.out.alloc _).alloc _) ⟨wr.heap.size + 1, 0, none⟩ 1 1 [.int .i64 q.st] rfl rfl (by have := nine_new (wr.alloc (.cells #[.int .i64 q.p.tk, .int .i64 q.p.fr, .int .i64 q.p.to, .int .i64 q.p.gp, .int .i64 q.p.fi, .int .i64 q.p.fo, .int .i64 q.p.lv, .int .i64 q.ix, .int .i64 q.st] 71)) [.int .i64 q.st] 3; rwa [World.size_alloc] at this) ?c1 ?c2 ?c3 ?c4 ?_)
        case c1 => intro u hu; simp at hu; subst hu; rfl
        case c2 => simp only [maxLen]; omega
        case c3 => omega
        case c4 => first | omega | (simp; omega)
        intro v' w4 hown' hgrow _
        have HG : Hid (Below w2.heap.size w2 w4) := Lib.hid (((hb.alloc zz _).alloc (by simp; omega) _).grown hgrow (by simp; omega) fun j hj => (HO.out.lt j hj).1)
        have hap : (stCells (R.take k) ++ [.int .i64 q.st]) = stCells (R.take (k + 1)) := by rw [List.take_succ_eq_append_getElem hkR, ← HQQ.out]; simp [stCells]
        rw [hap] at hown'
        have HO' := Lib.hid hown'
        clear hown' hgrow hap
        go_wp2
        go_roundw
        case rel => exact ⟨k + 1, by omega, by go_num, HO'.out, HG.out⟩
        case measure => simp [intOf]; omega
      · have hkn : k = n' := by omega
        subst hkn
        have HBW2 : Hid (Below w.heap.size w wr) := Lib.hid (HBW.out.trans (hb.mono HBW.out.size))
        have HQ2 : Hid (RQ wr wr.heap.size A2 k R) := Lib.hid ((HQ.out.below hb (Nat.le_refl _)).more hb.size)
        rw [List.take_of_length_le (by have := HRL.out; omega)] at HO
        obtain ⟨A', c', rfl, hre⟩ := own_reads HO.out
        have HRE := Lib.hid hre
        clear hre
        obtain ⟨en, hen⟩ : ∃ en, lenP R = en := ⟨_, rfl⟩
        have HEN := Lib.hid hen
        clear hen
        go_wp2_with fail
        refine (length_any _ _ _ _ R _ HQ2.out (Nat.le_refl _) (by rw [HRL.out]; omega) HOK.out).mono ?_
        rintro e w3 ⟨rfl, hb3⟩
        rw [HEN.out]
        go_wp2
        go_ret3
        exact ⟨A', c', by rw [HRL.out, HEN.out]; rfl, by rw [HRL.out]; exact (HRE.out.below hb3 (Nat.le_refl _)).more hb3.size, HBW2.out.trans (hb3.mono HBW2.out.size)⟩
  · have hr : stsR l ps = [] := by unfold stsR; rw [if_neg hc]
    rw [hr]
    have hc1 : (ckP l ps == 0) = false := by simpa using hc
    have hc2 : (ckP l ps != 0) = true := by simpa using hc
    clear hc hr
    obtain ⟨q, hq⟩ : ∃ q, q = ckP l ps := ⟨_, rfl⟩
    rw [← hq] at hc1 hc2 ⊢
    have HQ := Lib.hid hq
    clear hq
    go_enter Try.func14, Try.ntmps14
    go_wp2_with fail
    refine (CheckProgramme_any _ _ _ _ _ _ _ l ps _ H.out G.out (Nat.le_refl _) hl hl' HS.out).mono ?_
    rintro e w1 ⟨rfl, hb1⟩
    rw [← HQ.out]
    go_wp2
    go_ret3
    exact sts_nil hb1
end Go.Proofs.Ytbcahkklhdnboaa
