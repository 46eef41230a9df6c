/-
  The walk of PlayTurned.
-/
import Derived.Test.YtjdnpgilinfkgaaNA
import Derived.Test.YtjdnpgilinfkgaaME
import Derived.Test.YtjdnpgilinfkgaaMF
import Derived.Test.YtjdnpgilinfkgaaLt
import Derived.Test.YtjdnpgilinfkgaaW2
import Derived.Deep.Cut
namespace Go.Proofs.Ytjdnpgilinfkgaa
open Go.RowKit


structure T2 (w W : World) (n7 n8 : Nat) (s7 s8 : Value) (x7 x8 : List Value) : Prop where
  o7 : W.ownsRow w.heap.size 69 2 s7 n7 x7
  o8 : W.ownsRow w.heap.size 69 2 s8 n8 x8
  ap : Apart s7 s8
  b : Below w.heap.size w W
section
variable {w W W1 W' : World} {n7 n8 : Nat} {s7 s8 : Value} {x7 x8 : List Value}
theorem T2.below (h : T2 w W n7 n8 s7 s8 x7 x8) (hb : Below W.heap.size W W1) : T2 w W1 n7 n8 s7 s8 x7 x8 :=
  ⟨own_below h.o7 hb, own_below h.o8 hb, h.ap, h.b.trans (hb.mono h.b.size)⟩
theorem T2.set7 {n : Nat} {x : List Value} (h : T2 w W1 n7 n8 s7 s8 x7 x8) {s : Value} (hg : W1.grownBy W' s7.ownBlock) (ho : W'.ownsRow w.heap.size 69 2 s n x) (hb : s.ownBlock = s7.ownBlock ∨ s.ownBlock = some W1.heap.size) : T2 w W' n n8 s s8 x x8 :=
  ⟨ho, h.o8.kept hg h.ap.symm.ne, (h.ap.symm.new (fun g e => (h.o8.lt g e).2) hb).symm, h.b.grown hg h.b.size (fun q e => (h.o7.lt q e).1)⟩
theorem T2.set8 {n : Nat} {x : List Value} (h : T2 w W1 n7 n8 s7 s8 x7 x8) {s : Value} (hg : W1.grownBy W' s8.ownBlock) (ho : W'.ownsRow w.heap.size 69 2 s n x) (hb : s.ownBlock = s8.ownBlock ∨ s.ownBlock = some W1.heap.size) : T2 w W' n7 n s7 s x7 x :=
  ⟨h.o7.kept hg h.ap.ne, ho, h.ap.new (fun g e => (h.o7.lt g e).2) hb, h.b.grown hg h.b.size (fun q e => (h.o8.lt q e).1)⟩
end

set_option maxRecDepth 100000 in
set_option maxHeartbeats 8000000 in
theorem pturned_walk (B : Nat) (Af A : Option Addr) (nf cf n k : Nat) (s : List Int) (l : List Smp) (at_ : Int) (w : World) (hL : LI w B Af nf s) (h0 : RS w B A n l) (ha0 : 0 ≤ at_) (ha1 : at_ ≤ 255) (hnk : n ≤ k) (hB : B ≤ w.heap.size) (hf : nf ≤ 9223372036854775807) (hl : n ≤ 9223372036854775807) :
    Calls Try.prog 13 #[.agg #[.slice Af nf cf], .slice A n k, .int .u8 at_] w fun e w' => e = .returned (.bool true) ∧ Below w.heap.size w w' := by
  have HN := Lib.hid h0.1
  have H := Lib.hid h0
  have HL := Lib.hid hL
  clear h0 hL
  cases hv : vdL s l 60
  · have HV := Lib.hid hv
    clear hv
    go_enter Try.func13, Try.ntmps13
    go_wp2_with fail
    obtain ⟨w1, hW⟩ : ∃ W, w.alloc (.cells #[.slice Af nf cf] 24) = W := ⟨_, rfl⟩
    have hb : Below w.heap.size w w1 := by rw [← hW]; exact (Below.refl _ _).alloc (Nat.le_refl _) _
    have hsz1 := hb.size
    replace H := Lib.hid (H.out.below hb (by omega))
    replace HL := Lib.hid (HL.out.below hb (by omega))
    have HK : Hid (Blk w1 w.heap.size 24 #[.slice Af nf cf]) := Lib.hid (by rw [← hW]; exact Blk.new _ _ _)
    have HB := Lib.hid hb
    try rw [hW]
    clear hW hb
    have t0 := HK.out.one.1
    have CALL := valid_any w1.heap.size Af A nf cf n k s l 60 w1 (HL.out.more (by omega)) (H.out.more (by omega)) (Nat.le_refl _) hf hl
    rw [HV.out] at CALL
    refine CALL.mono ?_
    rintro e w2 ⟨rfl, hb⟩
    clear CALL
    have hsz2 := hb.size
    replace H := Lib.hid (H.out.below hb (by omega))
    replace HL := Lib.hid (HL.out.below hb (by omega))
    replace HK := Lib.hid (HK.out.below hb HK.out.lt)
    replace HB := Lib.hid (HB.out.trans (hb.mono (by omega)))
    clear hb
    have t0 := HK.out.one.1
    go_wp2_with fail
    have CALL := works6_any w2
    refine CALL.mono ?_
    rintro e w3 ⟨rfl, hb⟩
    clear CALL
    have hsz3 := hb.size
    replace H := Lib.hid (H.out.below hb (by omega))
    replace HL := Lib.hid (HL.out.below hb (by omega))
    replace HK := Lib.hid (HK.out.below hb HK.out.lt)
    replace HB := Lib.hid (HB.out.trans (hb.mono (by omega)))
    clear hb
    have t0 := HK.out.one.1
    go_wp2
    go_ret
    exact ⟨rfl, HB.out⟩
  · have HV := Lib.hid hv
    clear hv
    go_enter Try.func13, Try.ntmps13
    go_wp2_with fail
    obtain ⟨w1, hW⟩ : ∃ W, w.alloc (.cells #[.slice Af nf cf] 24) = W := ⟨_, rfl⟩
    have hb : Below w.heap.size w w1 := by rw [← hW]; exact (Below.refl _ _).alloc (Nat.le_refl _) _
    have hsz1 := hb.size
    replace H := Lib.hid (H.out.below hb (by omega))
    replace HL := Lib.hid (HL.out.below hb (by omega))
    have HK : Hid (Blk w1 w.heap.size 24 #[.slice Af nf cf]) := Lib.hid (by rw [← hW]; exact Blk.new _ _ _)
    have HB := Lib.hid hb
    try rw [hW]
    clear hW hb
    have t0 := HK.out.one.1
    have HOK := Lib.hid (vdL_t HV.out)
    have hs : Shp s := ckTip_ok HOK.out.1
    have he : Edg l := (ckG_edg HOK.out.2.2).2
    have hn60 : n ≤ 60 := by have := HOK.out.2.1; have := HN.out; omega
    have HSH := Lib.hid hs
    have HE := Lib.hid he
    have hl4 : l.length ≤ 4096 := by have := HN.out; omega
    have HR0 := Lib.hid (rd_ok hs hl4 he)
    clear hs he
    have CALL := valid_any w1.heap.size Af A nf cf n k s l 60 w1 (HL.out.more (by omega)) (H.out.more (by omega)) (Nat.le_refl _) hf hl
    rw [HV.out] at CALL
    refine CALL.mono ?_
    rintro e w2 ⟨rfl, hb⟩
    clear CALL
    have hsz2 := hb.size
    replace H := Lib.hid (H.out.below hb (by omega))
    replace HL := Lib.hid (HL.out.below hb (by omega))
    replace HK := Lib.hid (HK.out.below hb HK.out.lt)
    replace HB := Lib.hid (HB.out.trans (hb.mono (by omega)))
    clear hb
    have t0 := HK.out.one.1
    have HMI := Lib.hid (edg_mir HE.out)
    have HRV := Lib.hid (edg_rev HE.out)
    have hmx : (mirL l).length ≤ 4096 := by rw [mirL_len]; exact hl4
    have hrx : l.reverse.length ≤ 4096 := by rw [List.length_reverse]; exact hl4
    have HR1 := Lib.hid (rd_ok HSH.out hrx HRV.out)
    have HR2 := Lib.hid (rd_ok HSH.out hmx HMI.out)
    have HQ1 := Lib.hid (rd_rev HSH.out HE.out)
    have HQ2 := Lib.hid (rd_mir s l)
    have HG0 := Lib.hid (ckG_of hl4 HE.out)
    have HG2 := Lib.hid (ckG_of hmx HMI.out)
    obtain ⟨i0, hi0, hz0, hz1, hz2⟩ := info_parts info_pt
    have HI0 := Lib.hid hi0
    have HZ0 := Lib.hid hz0
    have HZ1 := Lib.hid hz1
    have HZ2 := Lib.hid hz2
    clear hi0 hz0 hz1 hz2
    go_wp2_with fail
    go_loopw [7, 8, 9] (fun v7 v8 z wr => ∃ (j : Nat) (s7 s8 : Value), j ≤ n ∧ z = .int .i64 j ∧ s7 = v7 ∧ s8 = v8 ∧ Hid (T2 w2 wr j j s7 s8 (smpCells (l.reverse.take j)) (smpCells ((mirL l).take j)))) (fun _ _ z _ => n - (intOf z).toNat)
    case atStart => exact ⟨0, _, _, Nat.zero_le _, rfl, rfl, rfl, Lib.hid ⟨World.ownsRow_nil _ _ _ _, World.ownsRow_nil _ _ _ _, fun g h => by simp [Value.ownBlock] at h, Below.refl _ _⟩⟩
    case round =>
      obtain ⟨j, s7, s8, hj, rfl, rfl, rfl, HT⟩ := hrel
      by_cases hlt : j < n
      · have hjl : j < l.length := by have := HN.out; omega
        have hx : n - 1 - j < l.length := by have := HN.out; omega
        have hA : ∃ ad, A = some ad := by obtain ⟨ad, e, _⟩ := H.out.at_ hjl; exact ⟨ad, e⟩
        obtain ⟨ad, rfl⟩ := hA
        have CX := Lib.hid (fun W (hb : Below w2.heap.size w2 W) (t : Nat) (ht : t < l.length) => show W.cell? (ad.add (t * 2)) = some (.int .i64 l[t].1) ∧ W.cell? ⟨(ad.add (t * 2)).block, (ad.add (t * 2)).off + 1, none⟩ = some (.int .i64 l[t].2) from by
          obtain ⟨ad', e, -, h1, h2⟩ := (H.out.below hb (by omega)).at_ ht
          obtain rfl := Option.some.inj e
          exact ⟨h1, h2⟩)
        have CX1 := Lib.hid (fun W hb => CX.out W hb _ hx)
        have CX2 := Lib.hid (fun W hb => CX.out W hb _ hjl)
        have HS1 : Hid (l.reverse.take (j + 1) = l.reverse.take j ++ [l[n - 1 - j]]) := Lib.hid (by
          have hr : j < l.reverse.length := by rw [List.length_reverse]; exact hjl
          rw [List.take_succ_eq_append_getElem hr, List.getElem_reverse]
          congr 2
          have := HN.out
          congr 1; omega)
        have HS2 : Hid ((mirL l).take (j + 1) = (mirL l).take j ++ [(-l[j].2, -l[j].1)]) := Lib.hid (by
          have hr : j < (mirL l).length := by rw [mirL_len]; exact hjl
          rw [List.take_succ_eq_append_getElem hr]
          have h := mirL_at hjl
          rw [List.getElem?_eq_getElem hr] at h
          rw [Option.some.inj h])
        have b1 := HE.out.1 j hjl
        have b2 := HE.out.2 j hjl
        rw [innW_eq hjl] at b1
        rw [outW_eq hjl] at b2
        obtain ⟨x, hxx⟩ : ∃ x, l[n - 1 - j] = x := ⟨_, rfl⟩
        obtain ⟨y, hyy⟩ : ∃ y, l[j] = y := ⟨_, rfl⟩
        rw [hxx] at CX1 HS1
        rw [hyy] at CX2 b1 b2 HS2
        clear hxx hyy
        obtain ⟨u, hu⟩ : ∃ u, n - 1 - j = u := ⟨_, rfl⟩
        rw [hu] at CX1
        have e1 : IntKind.i64.wrap ((n : Int) - 1) = (n : Int) - 1 := IntWalk.i64_in _ (by omega)
        have e2 : IntKind.i64.wrap ((n : Int) - 1 - j) = (u : Int) := by rw [show (n : Int) - 1 - j = u by omega]; exact IntWalk.i64_in _ (by omega)
        have e3 : IntKind.i64.wrap (-y.2) = -y.2 := IntWalk.i64_in _ (by omega)
        have e4 : IntKind.i64.wrap (-y.1) = -y.1 := IntWalk.i64_in _ (by omega)
        have g1 : (u : Int) < (n : Int) := by omega
        have g2 : (j : Int) < (n : Int) := by omega
        clear hu hx hjl b1 b2
        obtain ⟨p1, p2⟩ := CX1.out _ HT.out.b
        have hs6 := HT.out.b.size
        go_wp2_with (at_builtin; refine wpList_append_any _ rfl (.tmp 35) (.tmp 44) _ rfl w2.heap.size 69 i0 _ 2 16 Try.underlying32 HI0.out HZ0.out HZ1.out HZ2.out rfl (by omega) s7 j _ rfl (HT.out.below (below_a wr _)).o7 (wr.heap.size + 1) (some ⟨wr.heap.size, 0, none⟩) 1 1 [.int .i64 x.1, .int .i64 x.2] rfl (reads_cells (blk_al rfl) (Nat.lt_succ_self _) (by rfl) (by rfl)) (by intro u hu; simp at hu; rcases hu with rfl | rfl <;> rfl) (by unfold maxLen; omega) (by omega) (by simp; omega) ?_; intro v1 w3 hown1 hgrow1 hblk1)
        have HT3 := Lib.hid (T2.set7 (HT.out.below (below_a wr _)) hgrow1 hown1 hblk1)
        clear hown1 hgrow1 hblk1 p1 p2 HT
        obtain ⟨p3, p4⟩ := CX2.out _ HT3.out.b
        have hs7 := HT3.out.b.size
        go_region_held3 (fun w' => w'.cell? (ad.add (j * 2)) = some (.int .i64 y.1) ∧ w'.cell? ⟨(ad.add (j * 2)).block, (ad.add (j * 2)).off + 1, none⟩ = some (.int .i64 y.2))
          ((refine ⟨?_, ?_⟩ <;> (repeat (with_reducible (first | refine cell_al _ ?_ | refine cell_dr ?_))) <;> (with_reducible assumption)))
          (first | (refine step_append_any _ rfl (.tmp 46) (.tmp 60) _ rfl w2.heap.size 69 i0 _ 2 16 Try.underlying32 HI0.out HZ0.out HZ1.out HZ2.out rfl (by omega) s8 j _ rfl (by first | exact (HT3.out.below (below_ad _ _)).o8 | exact (HT3.out.below (below_da _ _)).o8 | exact (HT3.out.below (below_a _ _)).o8) _ _ 1 _ _ rfl (reads_cells (by first | exact blk_al rfl | exact blk_dr rfl) (Nat.lt_succ_self _) (by rfl) (by rfl)) (by intro u hu; simp at hu; rcases hu with rfl | rfl <;> rfl) (by unfold maxLen; omega) (by omega) (by simp; omega) ?_; intro v2 w4 hown2 hgrow2 hblk2; have HT4 := Lib.hid (T2.set8 (by first | exact HT3.out.below (below_ad _ _) | exact HT3.out.below (below_da _ _) | exact HT3.out.below (below_a _ _)) hgrow2 hown2 hblk2); clear hown2 hgrow2 hblk2; obtain ⟨y1, y2⟩ := CX2.out _ HT4.out.b))
        clear e1 e2 e3 e4 HT3 y1 y2 p3 p4
        go_wp2_with fail
        go_roundw
        case rel =>
          refine ⟨j + 1, v1, v2, by omega, by go_num, rfl, rfl, Lib.hid ?_⟩
          have h := HT4.out
          rw [HS1.out, HS2.out, smpCells_snoc, smpCells_snoc]
          exact h
        case measure => simp [intOf]; omega
      · obtain rfl : j = n := by omega
        obtain ⟨A1, k1, hv3, hr3, hc3⟩ := own_readsC HT.out.o7
        subst hv3
        obtain ⟨A2, k2, hv4, hr4, hc4⟩ := own_readsC HT.out.o8
        subst hv4
        rw [List.take_of_length_le (by rw [List.length_reverse]; have := HN.out; omega)] at hr3
        rw [List.take_of_length_le (by rw [mirL_len]; have := HN.out; omega)] at hr4
        have H1 : Hid (RS wr wr.heap.size A1 j l.reverse) := Lib.hid ⟨by rw [List.length_reverse]; exact HN.out, hr3⟩
        have H2 : Hid (RS wr wr.heap.size A2 j (mirL l)) := Lib.hid ⟨by rw [mirL_len]; exact HN.out, hr4⟩
        have HBR := Lib.hid HT.out.b
        clear hr3 hr4 HT
        replace H := Lib.hid (H.out.below HBR.out (by omega))
        replace HL := Lib.hid (HL.out.below HBR.out (by omega))
        replace HK := Lib.hid (HK.out.below HBR.out HK.out.lt)
        replace HB := Lib.hid (HB.out.trans (HBR.out.mono (by omega)))
        have hszR := HBR.out.size
        clear HBR t0
        have t0 := HK.out.one.1
        have hk_1 : A = A := rfl
        clear hk_1
        go_wp2_with fail
        have CALL := Read_any wr.heap.size Af A nf cf j k s l wr (HL.out.more (by omega)) (H.out.more (by omega)) (Nat.le_refl _) (by omega) (by omega)
        rw [HR0.out, rdRes_ok HR0.out] at CALL
        refine CALL.mono ?_
        rintro e w3 ⟨A5, n5, k5, rfl, hr, hc5, hb⟩
        clear CALL
        have hsz3 := hb.size
        replace H := Lib.hid (H.out.below hb (by omega))
        replace HL := Lib.hid (HL.out.below hb (by omega))
        replace H1 := Lib.hid (H1.out.below hb (by omega))
        replace H2 := Lib.hid (H2.out.below hb (by omega))
        replace HK := Lib.hid (HK.out.below hb HK.out.lt)
        replace HB := Lib.hid (HB.out.trans (hb.mono (by omega)))
        have hle5 : n5 ≤ 4096 := by have h1 := hr.1; have h2 : (rdL s l).length ≤ 4096 := (by rw [rdL_len]; exact hl4); omega
        have H5 := Lib.hid hr
        clear hr
        clear hb
        have t0 := HK.out.one.1
        have hnn : j = n5 := by have h1 := H5.out.1; have h2 : (rdL s l).length = l.length := (by rw [rdL_len]); have := HN.out; omega
        subst hnn
        go_wp2_with fail
        have CALL := Read_any w3.heap.size Af A1 nf cf j k1 s l.reverse w3 (HL.out.more (by omega)) (H1.out.more (by omega)) (Nat.le_refl _) (by omega) (by omega)
        rw [HR1.out, rdRes_ok HR1.out, HQ1.out] at CALL
        refine CALL.mono ?_
        rintro e w4 ⟨A6, n6, k6, rfl, hr, hc6, hb⟩
        clear CALL
        have hsz4 := hb.size
        replace H := Lib.hid (H.out.below hb (by omega))
        replace HL := Lib.hid (HL.out.below hb (by omega))
        replace H1 := Lib.hid (H1.out.below hb (by omega))
        replace H2 := Lib.hid (H2.out.below hb (by omega))
        replace H5 := Lib.hid (H5.out.below hb (by omega))
        replace HK := Lib.hid (HK.out.below hb HK.out.lt)
        replace HB := Lib.hid (HB.out.trans (hb.mono (by omega)))
        have hle6 : n6 ≤ 4096 := by have h1 := hr.1; have h2 : ((rdL s l).reverse).length ≤ 4096 := (by rw [List.length_reverse, rdL_len]; exact hl4); omega
        have H6 := Lib.hid hr
        clear hr
        clear hb
        have t0 := HK.out.one.1
        have hnn : j = n6 := by have h1 := H6.out.1; have h2 : ((rdL s l).reverse).length = l.length := (by rw [List.length_reverse, rdL_len]); have := HN.out; omega
        subst hnn
        go_wp2_with fail
        have CALL := Read_any w4.heap.size Af A2 nf cf j k2 s (mirL l) w4 (HL.out.more (by omega)) (H2.out.more (by omega)) (Nat.le_refl _) (by omega) (by omega)
        rw [HR2.out, rdRes_ok HR2.out, HQ2.out] at CALL
        refine CALL.mono ?_
        rintro e w5 ⟨A7, n7, k7, rfl, hr, hc7, hb⟩
        clear CALL
        have hsz5 := hb.size
        replace H := Lib.hid (H.out.below hb (by omega))
        replace HL := Lib.hid (HL.out.below hb (by omega))
        replace H1 := Lib.hid (H1.out.below hb (by omega))
        replace H2 := Lib.hid (H2.out.below hb (by omega))
        replace H5 := Lib.hid (H5.out.below hb (by omega))
        replace H6 := Lib.hid (H6.out.below hb (by omega))
        replace HK := Lib.hid (HK.out.below hb HK.out.lt)
        replace HB := Lib.hid (HB.out.trans (hb.mono (by omega)))
        have hle7 : n7 ≤ 4096 := by have h1 := hr.1; have h2 : (mirL (rdL s l)).length ≤ 4096 := (by rw [mirL_len, rdL_len]; exact hl4); omega
        have H7 := Lib.hid hr
        clear hr
        clear hb
        have t0 := HK.out.one.1
        have hnn : j = n7 := by have h1 := H7.out.1; have h2 : (mirL (rdL s l)).length = l.length := (by rw [mirL_len, rdL_len]); have := HN.out; omega
        subst hnn
        obtain ⟨x1, hx1⟩ : ∃ x, (baL l).1 = x := ⟨_, rfl⟩
        obtain ⟨x2, hx2⟩ : ∃ x, (baL l).2 = x := ⟨_, rfl⟩
        obtain ⟨x3, hx3⟩ : ∃ x, (baL (mirL l)).2 = x := ⟨_, rfl⟩
        have HX := Lib.hid (And.intro hx1 (And.intro hx2 hx3))
        have HXM : Hid ((baL (mirL l)).1 = x1) := Lib.hid ((ba_mir l).trans hx1)
        clear hx1 hx2 hx3
        go_wp2_with fail
        have CALL := Balance_any w5.heap.size A j k l w5 (H.out.more (by omega)) (Nat.le_refl _) (by omega)
        rw [if_pos HG0.out, if_pos HG0.out, HG0.out, HX.out.1, HX.out.2.1] at CALL
        refine CALL.mono ?_
        rintro e w6 ⟨rfl, hb⟩
        clear CALL
        have hsz6 := hb.size
        replace H := Lib.hid (H.out.below hb (by omega))
        replace HL := Lib.hid (HL.out.below hb (by omega))
        replace H1 := Lib.hid (H1.out.below hb (by omega))
        replace H2 := Lib.hid (H2.out.below hb (by omega))
        replace H5 := Lib.hid (H5.out.below hb (by omega))
        replace H6 := Lib.hid (H6.out.below hb (by omega))
        replace H7 := Lib.hid (H7.out.below hb (by omega))
        replace HK := Lib.hid (HK.out.below hb HK.out.lt)
        replace HB := Lib.hid (HB.out.trans (hb.mono (by omega)))
        clear hb
        have t0 := HK.out.one.1
        go_wp2_with fail
        obtain ⟨w7, hW⟩ : ∃ W, w6.alloc (.cells #[.int .i64 x1, .int .i64 x2] 52) = W := ⟨_, rfl⟩
        have hb : Below w6.heap.size w6 w7 := by rw [← hW]; exact (Below.refl _ _).alloc (Nat.le_refl _) _
        have hsz7 := hb.size
        replace H := Lib.hid (H.out.below hb (by omega))
        replace HL := Lib.hid (HL.out.below hb (by omega))
        replace H1 := Lib.hid (H1.out.below hb (by omega))
        replace H2 := Lib.hid (H2.out.below hb (by omega))
        replace H5 := Lib.hid (H5.out.below hb (by omega))
        replace H6 := Lib.hid (H6.out.below hb (by omega))
        replace H7 := Lib.hid (H7.out.below hb (by omega))
        replace HK := Lib.hid (HK.out.below hb HK.out.lt)
        replace HB := Lib.hid (HB.out.trans (hb.mono (by omega)))
        have HK1 : Hid (Blk w7 w6.heap.size 52 #[.int .i64 x1, .int .i64 x2]) := Lib.hid (by rw [← hW]; exact Blk.new _ _ _)
        try rw [hW]
        clear hW hb
        have t0 := HK.out.one.1
        obtain ⟨s0, s1, -, -, -⟩ := HK1.out.two
        have CALL := Balance_any w7.heap.size A2 j k2 (mirL l) w7 (H2.out.more (by omega)) (Nat.le_refl _) (by omega)
        rw [if_pos HG2.out, if_pos HG2.out, HG2.out, HXM.out, HX.out.2.2] at CALL
        refine CALL.mono ?_
        rintro e w8 ⟨rfl, hb⟩
        clear CALL
        have hsz8 := hb.size
        replace H := Lib.hid (H.out.below hb (by omega))
        replace HL := Lib.hid (HL.out.below hb (by omega))
        replace H1 := Lib.hid (H1.out.below hb (by omega))
        replace H2 := Lib.hid (H2.out.below hb (by omega))
        replace H5 := Lib.hid (H5.out.below hb (by omega))
        replace H6 := Lib.hid (H6.out.below hb (by omega))
        replace H7 := Lib.hid (H7.out.below hb (by omega))
        replace HK := Lib.hid (HK.out.below hb HK.out.lt)
        replace HK1 := Lib.hid (HK1.out.below hb HK1.out.lt)
        replace HB := Lib.hid (HB.out.trans (hb.mono (by omega)))
        clear hb
        have t0 := HK.out.one.1
        obtain ⟨s0, s1, -, -, -⟩ := HK1.out.two
        go_upto_region 14 with fail
        obtain ⟨w9, hW⟩ : ∃ W, w8.alloc (.cells #[.int .i64 x1, .int .i64 x3] 52) = W := ⟨_, rfl⟩
        have hb : Below w8.heap.size w8 w9 := by rw [← hW]; exact (Below.refl _ _).alloc (Nat.le_refl _) _
        have hsz9 := hb.size
        replace H := Lib.hid (H.out.below hb (by omega))
        replace HL := Lib.hid (HL.out.below hb (by omega))
        replace H1 := Lib.hid (H1.out.below hb (by omega))
        replace H2 := Lib.hid (H2.out.below hb (by omega))
        replace H5 := Lib.hid (H5.out.below hb (by omega))
        replace H6 := Lib.hid (H6.out.below hb (by omega))
        replace H7 := Lib.hid (H7.out.below hb (by omega))
        replace HK := Lib.hid (HK.out.below hb HK.out.lt)
        replace HK1 := Lib.hid (HK1.out.below hb HK1.out.lt)
        replace HB := Lib.hid (HB.out.trans (hb.mono (by omega)))
        have HK2 : Hid (Blk w9 w8.heap.size 52 #[.int .i64 x1, .int .i64 x3]) := Lib.hid (by rw [← hW]; exact Blk.new _ _ _)
        try rw [hW]
        clear hW hb
        have t0 := HK.out.one.1
        obtain ⟨s0, s1, -, -, -⟩ := HK1.out.two
        obtain ⟨v0, v1, -, -, -⟩ := HK2.out.two
        have q1 : ((j : Int) != (j : Int)) = false := by simp
        go_wp2_with fail
        clear q1
        clear HK1
        clear HK2
        clear s0 s1 v0 v1 HX HXM
        clear H1
        clear H2
        go_loopw [20] (fun z wq => ∃ t : Nat, t ≤ j ∧ z = .int .i64 t ∧ Hid (Below w9.heap.size w9 wq)) (fun z _ => j - (intOf z).toNat)
        case atStart => exact ⟨0, Nat.zero_le _, rfl, Lib.hid (Below.refl _ _)⟩
        case round =>
          obtain ⟨t, ht, rfl, HBQ⟩ := hrel
          by_cases hlt : t < j
          · have ht5 : t < (rdL s l).length := by rw [rdL_len]; have := HN.out; omega
            have hv5 : j - 1 - t < (rdL s l).length := by rw [rdL_len]; have := HN.out; omega
            have ht6 : t < (rdL s l).reverse.length := by rw [List.length_reverse]; exact ht5
            have ht7 : t < (mirL (rdL s l)).length := by rw [mirL_len]; exact ht5
            obtain ⟨a5, hA5, _, p1, p2⟩ := (H5.out.below HBQ.out (by omega)).at_ ht5
            obtain ⟨a5', hA5', _, p3, p4⟩ := (H5.out.below HBQ.out (by omega)).at_ hv5
            obtain ⟨a6, hA6, _, p5, p6⟩ := (H6.out.below HBQ.out (by omega)).at_ ht6
            obtain ⟨a7, hA7, _, p7, p8⟩ := (H7.out.below HBQ.out (by omega)).at_ ht7
            obtain rfl := hA5
            obtain rfl := Option.some.inj hA5'
            obtain rfl := hA6
            obtain rfl := hA7
            have e6 : (rdL s l).reverse[t] = (rdL s l)[j - 1 - t] := by
              rw [List.getElem_reverse]
              congr 1
              rw [rdL_len]; have := HN.out; omega
            have e7 : (mirL (rdL s l))[t] = (-(rdL s l)[t].2, -(rdL s l)[t].1) := by
              have h := mirL_at ht5
              rw [List.getElem?_eq_getElem ht7] at h
              exact Option.some.inj h
            rw [e6] at p5 p6
            rw [e7] at p7 p8
            have hed := rdL_edg HSH.out HE.out
            have b1 := hed.1 t ht5
            have b2 := hed.2 t ht5
            rw [innW_eq ht5] at b1
            rw [outW_eq ht5] at b2
            obtain ⟨x, hxx⟩ : ∃ x, (rdL s l)[j - 1 - t] = x := ⟨_, rfl⟩
            obtain ⟨y, hyy⟩ : ∃ y, (rdL s l)[t] = y := ⟨_, rfl⟩
            rw [hxx] at p3 p4 p5 p6
            rw [hyy] at p1 p2 p7 p8 b1 b2
            have eqp := fun W : World => eqPts x.1 x.2 x.1 x.2 W
            have eqr := fun W : World => eqPts (-y.2) (-y.1) (-y.2) (-y.1) W
            replace eqp : ∀ W, _ = Result.ok true W := fun W => (eqp W).trans (by simp)
            replace eqr : ∀ W, _ = Result.ok true W := fun W => (eqr W).trans (by simp)
            clear hxx hyy e6 e7 ht5 hv5 ht6 ht7 hed
            obtain ⟨u, hu⟩ : ∃ u, j - 1 - t = u := ⟨_, rfl⟩
            rw [hu] at p3 p4
            have e1 : IntKind.i64.wrap ((j : Int) - 1) = (j : Int) - 1 := IntWalk.i64_in _ (by omega)
            have e2 : IntKind.i64.wrap ((j : Int) - 1 - t) = (u : Int) := by rw [show (j : Int) - 1 - t = u by omega]; exact IntWalk.i64_in _ (by omega)
            have e3 : IntKind.i64.wrap (-y.2) = -y.2 := IntWalk.i64_in _ (by omega)
            have e4 : IntKind.i64.wrap (-y.1) = -y.1 := IntWalk.i64_in _ (by omega)
            have g1 : (u : Int) < (j : Int) := by omega
            have g2 : (t : Int) < (j : Int) := by omega
            have z1 := Lat.cell p1
            have z2 := Lat.cell p2
            have z3 := Lat.cell p3
            have z4 := Lat.cell p4
            have z5 := Lat.cell p5
            have z6 := Lat.cell p6
            have z7 := Lat.cell p7
            have z8 := Lat.cell p8
            clear p1 p2 p3 p4 p5 p6 p7 p8 b1 b2 hu t0
            go_wp2_with fail
            try dsimp only [List.append]
            refine wp_region_lat (by kernel_rfl) (by kernel_rfl) ?_
            repeat (go_big_quiet_step (fail))
            refine wpQuiet_nil ?_
            intro W3 hw'
            have hb1 := lat_out hw'
            replace HBQ := Lib.hid (HBQ.out.trans (hb1.mono HBQ.out.size))
            clear hb1 hw' z1 z2 z3 z4 z5 z6 z7 z8 eqp eqr e1 e2 e3 e4
            go_wp2
            go_roundw
            case rel => exact ⟨t + 1, by omega, by go_num, HBQ⟩
            case measure => simp [intOf]; omega
          · obtain rfl : j = t := by omega
            replace H := Lib.hid (H.out.below HBQ.out (by omega))
            replace HL := Lib.hid (HL.out.below HBQ.out (by omega))
            replace H5 := Lib.hid (H5.out.below HBQ.out (by omega))
            replace H6 := Lib.hid (H6.out.below HBQ.out (by omega))
            replace H7 := Lib.hid (H7.out.below HBQ.out (by omega))
            replace HK := Lib.hid (HK.out.below HBQ.out HK.out.lt)
            replace HB := Lib.hid (HB.out.trans (HBQ.out.mono (by omega)))
            have hszQ := HBQ.out.size
            clear HBQ t0 hlt ht
            have t0 := HK.out.one.1
            obtain ⟨m, hm⟩ : ∃ m : Nat, at_.toNat % (j + 1) = m := ⟨_, rfl⟩
            have hmj : m ≤ j := by have := Nat.mod_lt at_.toNat (show 0 < j + 1 by omega); omega
            have f1 : IntKind.i64.wrap at_ = at_ := IntWalk.i64_in _ (by omega)
            have f2 : IntKind.i64.wrap ((j : Int) + 1) = (j : Int) + 1 := IntWalk.i64_in _ (by omega)
            have f3 : at_.tmod ((j : Int) + 1) = (m : Int) := by
              rw [Int.tmod_eq_emod_of_nonneg (by omega), show at_ = ((at_.toNat : Nat) : Int) by omega, show (j : Int) + 1 = ((j + 1 : Nat) : Int) by omega, ← hm]; rfl
            have f4 : IntKind.i64.wrap (m : Int) = (m : Int) := IntWalk.i64_in _ (by omega)
            have f5 : ¬ ((j : Int) + 1 = 0) := by omega
            have f6 : (((j : Int) + 1) == 0) = false := beq_eq_false_iff_ne.2 f5
            have f7 : ((0 : Int) == (j : Int) + 1) = false := beq_eq_false_iff_ne.2 (by omega)
            have HTE := Lib.hid (edg_take (m := m) HE.out (by have := HN.out; omega))
            have HTL : Hid ((l.take m).length = m) := Lib.hid (by rw [List.length_take]; have := HN.out; omega)
            have HR8 := Lib.hid (rd_ok HSH.out (by rw [HTL.out]; omega) HTE.out)
            have HIN := Lib.hid (rd_part_in (m := m) HSH.out HE.out (by have := HN.out; omega))
            have HPT := Lib.hid (fun t (h : t + s.length ≤ m) => rd_part HSH.out HE.out (by have := HN.out; omega) h)
            have sl1 := fun W => slice_hd A j k m (by omega) W
            have Hh := Lib.hid (rs_head H.out m (by omega))
            clear hm
            go_wp2_with fail
            refine wp_region_held_drew (S := fun w' => w'.cell? ⟨w.heap.size, 0, none⟩ = some (.slice Af nf cf)) (by kernel_rfl) HK.out.one.1 (fun hHeld => ?_)
            obtain ⟨w10, hwd⟩ : ∃ wd, wr.drew = wd := ⟨_, rfl⟩
            have hb : Below wr.heap.size wr w10 := by rw [← hwd]; exact (Below.refl _ _).drew
            have hsz10 := hb.size
            replace H := Lib.hid (H.out.below hb (by omega))
            replace HL := Lib.hid (HL.out.below hb (by omega))
            replace H5 := Lib.hid (H5.out.below hb (by omega))
            replace H6 := Lib.hid (H6.out.below hb (by omega))
            replace H7 := Lib.hid (H7.out.below hb (by omega))
            replace Hh := Lib.hid (Hh.out.below hb (by omega))
            replace HK := Lib.hid (HK.out.below hb HK.out.lt)
            replace HB := Lib.hid (HB.out.trans (hb.mono (by omega)))
            rw [hwd] at hHeld ⊢
            clear hb hwd
            have t0 := HK.out.one.1
            refine wpAnyH_take (i := 0) (oi := { dst := some 182, op := Go.Op.load 24 (Go.Operand.tmp 3), type := 24, pos := "outright.go:305", after := #[], guard := none }) (v := ?vt10001) rfl (by kernel_rfl) (by kernel_rfl) (by kernel_rfl) (fun _ _ _ h => h) (Or.inl ⟨by rfl, ?ht10001⟩) hHeld ?_
            case ht10001 => intro w hSw; (try dsimp only at hSw); go_simp; try with_reducible rfl
            simp only [Act.put, List.setIfInBounds_toArray, List.set_cons_zero, List.set_cons_succ]
            refine wpAnyH_take (i := 1) (oi := { dst := some 183, op := Go.Op.move (Go.Operand.tmp 1), type := 32, pos := "outright.go:305", after := #[], guard := none }) (v := ?vt10002) rfl (by kernel_rfl) (by kernel_rfl) (by kernel_rfl) (fun _ _ _ h => h) (Or.inl ⟨by rfl, ?ht10002⟩) hHeld ?_
            case ht10002 => intro w hSw; (try dsimp only at hSw); go_simp; try with_reducible rfl
            simp only [Act.put, List.setIfInBounds_toArray, List.set_cons_zero, List.set_cons_succ]
            refine wpAnyH_take (i := 2) (oi := { dst := some 184, op := Go.Op.move (Go.Operand.tmp 21), type := 3, pos := "outright.go:305", after := #[], guard := none }) (v := ?vt10003) rfl (by kernel_rfl) (by kernel_rfl) (by kernel_rfl) (fun _ _ _ h => h) (Or.inl ⟨by rfl, ?ht10003⟩) hHeld ?_
            case ht10003 => intro w hSw; (try dsimp only at hSw); go_simp; try with_reducible rfl
            simp only [Act.put, List.setIfInBounds_toArray, List.set_cons_zero, List.set_cons_succ]
            refine wpAnyH_take (i := 3) (oi := { dst := some 185, op := Go.Op.slice 32 (Go.Operand.tmp 183) none (some (Go.Operand.tmp 184)) none, type := 32, pos := "outright.go:305", after := #[{ on := 1, ground := Go.Ground.data }, { on := 2, ground := Go.Ground.data }], guard := none }) (v := ?vt10004) rfl (by kernel_rfl) (by kernel_rfl) (by kernel_rfl) (fun _ _ _ h => h) (Or.inl ⟨by rfl, ?ht10004⟩) hHeld ?_
            case ht10004 => intro w hSw; (try dsimp only at hSw); go_simp; try with_reducible rfl
            simp only [Act.put, List.setIfInBounds_toArray, List.set_cons_zero, List.set_cons_succ]
            refine wpAnyH_ready (rs := [4]) (by kernel_rfl) (by simp) ?_
            refine AllReadyH.cons rfl (fun K hK => ?_) AllReadyH.nil
            go_simp
            have CALL := Read_any w10.heap.size Af A nf cf m k s (l.take m) w10 (HL.out.more (by omega)) (Hh.out.more (by omega)) (Nat.le_refl _) (by omega) (by omega)
            rw [HR8.out, rdRes_ok HR8.out] at CALL
            refine CALL.mono ?_
            rintro e w11 ⟨A8, n8, k8, rfl, hr, hc8, hb⟩
            clear CALL
            have hsz11 := hb.size
            replace H := Lib.hid (H.out.below hb (by omega))
            replace HL := Lib.hid (HL.out.below hb (by omega))
            replace H5 := Lib.hid (H5.out.below hb (by omega))
            replace H6 := Lib.hid (H6.out.below hb (by omega))
            replace H7 := Lib.hid (H7.out.below hb (by omega))
            replace Hh := Lib.hid (Hh.out.below hb (by omega))
            replace HK := Lib.hid (HK.out.below hb HK.out.lt)
            replace HB := Lib.hid (HB.out.trans (hb.mono (by omega)))
            have hle8 : n8 ≤ 4096 := by have h1 := hr.1; have h2 : (rdL s (l.take m)).length ≤ 4096 := (by rw [rdL_len, HTL.out]; omega); omega
            have H8 := Lib.hid hr
            clear hr
            clear hb
            have t0 := HK.out.one.1
            refine hK.out _ _ ?_ (fun hH10005 => ?_)
            · exact HK.out.one.1
            clear hK K
            refine wpAnyH_take (i := 5) (oi := { dst := some 181, op := Go.Op.move (Go.Operand.tmp 186), type := 65, pos := "outright.go:305", after := #[{ on := 4, ground := Go.Ground.data }], guard := none }) (v := ?vt10006) rfl (by kernel_rfl) (by kernel_rfl) (by kernel_rfl) (fun _ _ _ h => h) (Or.inl ⟨by rfl, ?ht10006⟩) hH10005 ?_
            case ht10006 => intro w hSw; (try dsimp only at hSw); go_simp; try with_reducible rfl
            simp only [Act.put, List.setIfInBounds_toArray, List.set_cons_zero, List.set_cons_succ]
            refine wpAnyH_take (i := 6) (oi := { dst := some 187, op := Go.Op.extract (Go.Operand.tmp 181) 0, type := 32, pos := "outright.go:305", after := #[{ on := 5, ground := Go.Ground.data }], guard := none }) (v := ?vt10007) rfl (by kernel_rfl) (by kernel_rfl) (by kernel_rfl) (fun _ _ _ h => h) (Or.inl ⟨by rfl, ?ht10007⟩) hH10005 ?_
            case ht10007 => intro w hSw; (try dsimp only at hSw); go_simp; try with_reducible rfl
            simp only [Act.put, List.setIfInBounds_toArray, List.set_cons_zero, List.set_cons_succ]
            refine wpAnyH_take (i := 7) (oi := { dst := some 188, op := Go.Op.extract (Go.Operand.tmp 181) 1, type := 26, pos := "outright.go:305", after := #[{ on := 5, ground := Go.Ground.data }, { on := 8, ground := Go.Ground.gcOnly Go.Departure.lateStores }], guard := none }) (v := ?vt10008) rfl (by kernel_rfl) (by kernel_rfl) (by kernel_rfl) (fun _ _ _ h => h) (Or.inl ⟨by rfl, ?ht10008⟩) hH10005 ?_
            case ht10008 => intro w hSw; (try dsimp only at hSw); go_simp; try with_reducible rfl
            simp only [Act.put, List.setIfInBounds_toArray, List.set_cons_zero, List.set_cons_succ]
            refine wpAnyH_take (i := 8) (oi := { dst := some 22, op := Go.Op.assign (Go.Operand.tmp 187), type := 32, pos := "outright.go:305", after := #[{ on := 6, ground := Go.Ground.data }, { on := 4, ground := Go.Ground.chain }, { on := 0, ground := Go.Ground.phase }, { on := 1, ground := Go.Ground.phase }, { on := 2, ground := Go.Ground.phase }, { on := 3, ground := Go.Ground.phase }, { on := 4, ground := Go.Ground.phase }, { on := 5, ground := Go.Ground.phase }, { on := 6, ground := Go.Ground.phase }, { on := 7, ground := Go.Ground.textOnly Go.Departure.lateStores }], guard := none }) (v := ?vt10009) rfl (by kernel_rfl) (by kernel_rfl) (by kernel_rfl) (fun _ _ _ h => h) (Or.inl ⟨by rfl, ?ht10009⟩) hH10005 ?_
            case ht10009 => intro w hSw; (try dsimp only at hSw); go_simp; try with_reducible rfl
            simp only [Act.put, List.setIfInBounds_toArray, List.set_cons_zero, List.set_cons_succ]
            refine wpAnyH_take (i := 9) (oi := { dst := some 11, op := Go.Op.assign (Go.Operand.tmp 188), type := 26, pos := "outright.go:305", after := #[{ on := 7, ground := Go.Ground.data }, { on := 8, ground := Go.Ground.chain }, { on := 0, ground := Go.Ground.phase }, { on := 1, ground := Go.Ground.phase }, { on := 2, ground := Go.Ground.phase }, { on := 3, ground := Go.Ground.phase }, { on := 4, ground := Go.Ground.phase }, { on := 5, ground := Go.Ground.phase }, { on := 6, ground := Go.Ground.phase }, { on := 7, ground := Go.Ground.phase }, { on := 8, ground := Go.Ground.phase }], guard := none }) (v := ?vt10010) rfl (by kernel_rfl) (by kernel_rfl) (by kernel_rfl) (fun _ _ _ h => h) (Or.inl ⟨by rfl, ?ht10010⟩) hH10005 ?_
            case ht10010 => intro w hSw; (try dsimp only at hSw); go_simp; try with_reducible rfl
            simp only [Act.put, List.setIfInBounds_toArray, List.set_cons_zero, List.set_cons_succ]
            refine wpAnyH_done (by kernel_rfl) ?_ _
            have hnn : m = n8 := by have h1 := H8.out.1; rw [rdL_len, HTL.out] at h1; omega
            subst hnn
            have q1 : ((m : Int) != (m : Int)) = false := by simp
            clear sl1 f1 f2 f3 f4 f5 f6 f7
            go_wp2_with fail
            clear q1
            go_loopw [23] (fun z wv => ∃ t : Nat, t ≤ m ∧ z = .int .i64 t ∧ Hid (Below w11.heap.size w11 wv)) (fun z _ => m - (intOf z).toNat)
            case atStart => exact ⟨0, Nat.zero_le _, rfl, Lib.hid (Below.refl _ _)⟩
            case round =>
              obtain ⟨t, ht, rfl, HBQ⟩ := hrel
              replace t0 := (HK.out.below HBQ.out HK.out.lt).one.1
              by_cases hlt : t < m
              · have e1 : IntKind.i64.wrap ((t : Int) + nf) = (t : Int) + nf := IntWalk.i64_in _ (by have := HL.out.1; have := HSH.out.many; omega)
                have hnf : nf = s.length := HL.out.1
                by_cases hc : t + nf ≤ m
                · have d1 : (t : Int) + nf ≤ m := by omega
                  have d2 : decide ((t : Int) + nf ≤ m) = true := decide_eq_true d1
                  have ht5 : t < (rdL s l).length := by rw [rdL_len]; have := HN.out; omega
                  have ht8 : t < (rdL s (l.take m)).length := by rw [rdL_len, HTL.out]; exact hlt
                  have e8 : (rdL s (l.take m))[t] = (rdL s l)[t] := by
                    have h := HPT.out t (by omega)
                    rw [List.getElem?_eq_getElem ht5, List.getElem?_eq_getElem ht8] at h
                    exact Option.some.inj h
                  obtain ⟨a5, hA5, _, p1, p2⟩ := (H5.out.below HBQ.out (by omega)).at_ ht5
                  obtain ⟨a8, hA8, _, p3, p4⟩ := (H8.out.below HBQ.out (by omega)).at_ ht8
                  obtain rfl := hA5
                  obtain rfl := hA8
                  rw [e8] at p3 p4
                  obtain ⟨x, hxx⟩ : ∃ x, (rdL s l)[t] = x := ⟨_, rfl⟩
                  rw [hxx] at p1 p2 p3 p4
                  have eqp := fun W : World => eqPts x.1 x.2 x.1 x.2 W
                  replace eqp : ∀ W, _ = Result.ok true W := fun W => (eqp W).trans (by simp)
                  have g1 : (t : Int) < (j : Int) := by omega
                  have g2 : (t : Int) < (m : Int) := by omega
                  have z0 := Lat.cell t0
                  have z1 := Lat.cell p1
                  have z2 := Lat.cell p2
                  have z3 := Lat.cell p3
                  have z4 := Lat.cell p4
                  clear p1 p2 p3 p4 e8 ht5 ht8 hxx t0 hnf
                  go_wp2_with fail
                  try dsimp only [List.append]
                  refine wp_region_lat (by kernel_rfl) (by kernel_rfl) ?_
                  repeat (go_big_quiet_step (fail))
                  refine wpQuiet_nil ?_
                  intro W3 hw'
                  have hb1 := lat_out hw'
                  replace HBQ := Lib.hid (HBQ.out.trans (hb1.mono HBQ.out.size))
                  clear hb1 hw' e1 d1 d2
                  go_wp2
                  go_roundw
                  case rel => exact ⟨t + 1, by omega, by go_num, HBQ⟩
                  case measure => simp [intOf]; omega

                · have d1 : ¬ ((t : Int) + nf ≤ m) := by omega
                  have d2 : decide ((t : Int) + nf ≤ m) = false := decide_eq_false d1
                  have g2 : (t : Int) < (m : Int) := by omega
                  have z0 := Lat.cell t0
                  clear t0 hnf
                  go_wp2_with fail
                  try dsimp only [List.append]
                  refine wp_region_lat (by kernel_rfl) (by kernel_rfl) ?_
                  repeat (go_big_quiet_step (fail))
                  refine wpQuiet_nil ?_
                  intro W3 hw'
                  have hb1 := lat_out hw'
                  replace HBQ := Lib.hid (HBQ.out.trans (hb1.mono HBQ.out.size))
                  clear hb1 hw' e1 d1 d2
                  go_wp2
                  go_roundw
                  case rel => exact ⟨t + 1, by omega, by go_num, HBQ⟩
                  case measure => simp [intOf]; omega

              · obtain rfl : m = t := by omega
                replace H := Lib.hid (H.out.below HBQ.out (by omega))
                replace HL := Lib.hid (HL.out.below HBQ.out (by omega))
                replace H5 := Lib.hid (H5.out.below HBQ.out (by omega))
                replace H6 := Lib.hid (H6.out.below HBQ.out (by omega))
                replace H7 := Lib.hid (H7.out.below HBQ.out (by omega))
                replace Hh := Lib.hid (Hh.out.below HBQ.out (by omega))
                replace H8 := Lib.hid (H8.out.below HBQ.out (by omega))
                replace HK := Lib.hid (HK.out.below HBQ.out HK.out.lt)
                replace HB := Lib.hid (HB.out.trans (HBQ.out.mono (by omega)))
                have hszV := HBQ.out.size
                clear HBQ t0 hlt ht
                have t0 := HK.out.one.1
                have sl2 := fun W => slice_hd A5 j k5 m (by omega) W
                have Hi := Lib.hid (rs_head H5.out m (by omega))
                go_wp2_with fail
                have CALL := inside_any wr.heap.size A5 A8 m k5 m k8 ((rdL s l).take m) (rdL s (l.take m)) wr (Hi.out.more (by omega)) (H8.out.more (by omega)) (Nat.le_refl _) (by omega) (by omega)
                rw [HIN.out] at CALL
                refine CALL.mono ?_
                rintro e w12 ⟨rfl, hb⟩
                clear CALL
                have hsz12 := hb.size
                replace H := Lib.hid (H.out.below hb (by omega))
                replace HL := Lib.hid (HL.out.below hb (by omega))
                replace H5 := Lib.hid (H5.out.below hb (by omega))
                replace H6 := Lib.hid (H6.out.below hb (by omega))
                replace H7 := Lib.hid (H7.out.below hb (by omega))
                replace Hh := Lib.hid (Hh.out.below hb (by omega))
                replace H8 := Lib.hid (H8.out.below hb (by omega))
                replace Hi := Lib.hid (Hi.out.below hb (by omega))
                replace HK := Lib.hid (HK.out.below hb HK.out.lt)
                replace HB := Lib.hid (HB.out.trans (hb.mono (by omega)))
                clear hb
                have t0 := HK.out.one.1
                go_wp2_with fail
                have CALL := works6_any w12
                refine CALL.mono ?_
                rintro e w13 ⟨rfl, hb⟩
                clear CALL
                have hsz13 := hb.size
                replace H := Lib.hid (H.out.below hb (by omega))
                replace HL := Lib.hid (HL.out.below hb (by omega))
                replace H5 := Lib.hid (H5.out.below hb (by omega))
                replace H6 := Lib.hid (H6.out.below hb (by omega))
                replace H7 := Lib.hid (H7.out.below hb (by omega))
                replace Hh := Lib.hid (Hh.out.below hb (by omega))
                replace H8 := Lib.hid (H8.out.below hb (by omega))
                replace Hi := Lib.hid (Hi.out.below hb (by omega))
                replace HK := Lib.hid (HK.out.below hb HK.out.lt)
                replace HB := Lib.hid (HB.out.trans (hb.mono (by omega)))
                clear hb
                have t0 := HK.out.one.1
                go_wp2
                go_ret
                exact ⟨rfl, HB.out⟩
end Go.Proofs.Ytjdnpgilinfkgaa
