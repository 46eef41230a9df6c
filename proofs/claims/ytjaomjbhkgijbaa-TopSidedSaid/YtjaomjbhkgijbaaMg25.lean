/-
  Chains forwards: ApplyAll and Apply.
-/
import Derived.Test.YtjaomjbhkgijbaaMg22
import Derived.Test.YtjaomjbhkgijbaaMg24
import Derived.Test.YtjaomjbhkgijbaaMg12
import Derived.Test.YtjaomjbhkgijbaaMg20
import Derived.Test.YtjaomjbhkgijbaaMg1
import Derived.Test.YtjaomjbhkgijbaaMg11

namespace Go.Proofs.Ytjaomjbhkgijbaa
open Go.RowKit

theorem info_step : (Try.prog.info? 147).map (fun i => (i.zero, i.size, i.bytes)) = some (some .nilFunc, 1, 8) := by kernel_rfl
/-- What a chain makes of a signal: the errors first. -/
def chEr (l : List Cur) (xs : List Int) : Int := orL [ckCs l, ckX xs]
def chain (d : Bool) (l : List Cur) (xs : List Int) : Option (List Int) := thr d 32767 (if d then l else l.reverse) (l.map fun _ => []) xs
def chRes (d : Bool) (l : List Cur) (xs : List Int) : List Int := if chEr l xs = 0 then (chain d l xs).getD [] else []
def chErr (d : Bool) (l : List Cur) (xs : List Int) : Int := if chEr l xs = 0 then (if chain d l xs = none then 4 else 0) else chEr l xs
theorem ckX_ok {xs : List Int} (h : ckX xs = 0) : xs.length ≤ 4096 ∧ ∀ x ∈ xs, wib x 32767 = true := by
  unfold ckX at h
  split at h
  · cases h
  · split at h
    · rename_i h1 h2
      unfold wibs at h2
      rw [List.all_eq_true] at h2
      exact ⟨by omega, h2⟩
    · cases h
theorem chEr_ok {l : List Cur} {xs : List Int} (h : chEr l xs = 0) : (l.length ≤ 8 ∧ ∀ c ∈ l, CurOk c) ∧ xs.length ≤ 4096 ∧ ∀ x ∈ xs, wib x 32767 = true := by
  unfold chEr orL at h
  split at h
  · rename_i h1
    unfold ckCs at h1
    split at h1
    · cases h1
    · refine ⟨⟨by omega, fun c hc => ckV_ok (errs_ok h1 c hc)⟩, ckX_ok ?_⟩
      unfold orL at h
      split at h
      · assumption
      · exact h
  · rename_i h1
    exact absurd h h1
theorem Lives.snoc {w : World} {B : Nat} {dir : Bool} {l : List SR} {hs : List (List (Int × Int))} {s : SR} {h : List (Int × Int)} (H : Lives w B dir l hs) (hv : Live w B dir s h) (hne : ∀ t ∈ l, t.g ≠ s.g) : Lives w B dir (l ++ [s]) (hs ++ [h]) := by
  have hl := H.len
  refine ⟨by simp [hl], fun i j hi hj e => ?_, fun i hi hh => ?_⟩
  · simp at hi hj
    by_cases h1 : i < l.length <;> by_cases h2 : j < l.length
    · rw [List.getElem_append_left h1, List.getElem_append_left h2] at e
      exact H.inj i j h1 h2 e
    · rw [List.getElem_append_left h1, List.getElem_append_right (by omega)] at e
      simp at e
      exact absurd e (hne _ (List.getElem_mem h1))
    · rw [List.getElem_append_left h2, List.getElem_append_right (by omega)] at e
      simp at e
      exact absurd e.symm (hne _ (List.getElem_mem h2))
    · omega
  · simp at hi
    by_cases h1 : i < l.length
    · rw [List.getElem_append_left h1, List.getElem_append_left (by omega)]
      exact H.all i h1 (by omega)
    · rw [List.getElem_append_right (by omega), List.getElem_append_right (by omega)]
      simpa using hv
theorem map_snoc {rs : List SR} {l : List CV} {j : Nat} (h : rs.map SR.c = (l.take j).map CV.c) (hj : j < l.length) {s : SR} (hs : s.c = l[j].c) : (rs ++ [s]).map SR.c = (l.take (j + 1)).map CV.c := by
  rw [List.map_append, h, List.take_succ_eq_append_getElem hj, List.map_append]
  simp [hs]

set_option maxRecDepth 100000 in
set_option maxHeartbeats 4000000 in
theorem ApplyAll_any (B : Nat) (A : Option Addr) (n k : Nat) (l : List CV) (Ax : Option Addr) (nx kx : Nat) (xs : List Int) (w : World) (h0 : RC w B A n l) (hX : LI w B Ax nx xs) (hB : B ≤ w.heap.size) (hl : n ≤ 9223372036854775807) (hlx : nx ≤ 9223372036854775807) (hs : CSm l) :
    Calls Try.prog 53 #[.slice A n k, .slice Ax nx kx] w (OutPost w.heap.size w (chRes true (l.map CV.c) xs) (chErr true (l.map CV.c) xs)) := by
  have HN := Lib.hid h0.1
  have H := Lib.hid (h0.more hB)
  have HX := Lib.hid (hX.more hB)
  have HNX := Lib.hid hX.1
  have HS := Lib.hid hs
  clear h0 hX hB hs
  have CC := Lib.hid (fun W (hb : Below w.heap.size w W) => checkCurves_any w.heap.size A n k l W (H.out.below hb (Nat.le_refl _)) hb.size hl HS.out)
  have CX := Lib.hid (fun W (hb : Below w.heap.size w W) => checkSignal_any w.heap.size Ax nx kx xs W (HX.out.below hb (Nat.le_refl _)) hb.size hlx)
  obtain ⟨e1, he1⟩ : ∃ e, ckCs (l.map CV.c) = e := ⟨_, rfl⟩
  obtain ⟨e2, he2⟩ : ∃ e, ckX xs = e := ⟨_, rfl⟩
  have HOR := Lib.hid (fun B A n c W h1 h2 h3 h4 => cmpOr_any B A n c [e1, e2] W h1 h2 h3 h4)
  have HER : Hid (chEr (l.map CV.c) xs = orL [e1, e2]) := Lib.hid (by unfold chEr; rw [he1, he2])
  rw [he1] at CC
  rw [he2] at CX
  clear he1 he2
  obtain ⟨er, her⟩ : ∃ e, orL [e1, e2] = e := ⟨_, rfl⟩
  rw [her] at HOR HER
  clear her
  obtain ⟨R, hR⟩ : ∃ R, chRes true (l.map CV.c) xs = R := ⟨_, rfl⟩
  obtain ⟨E, hE⟩ : ∃ R, chErr true (l.map CV.c) xs = R := ⟨_, rfl⟩
  rw [hR, hE]
  have HR := Lib.hid hR
  have HE := Lib.hid hE
  clear hR hE
  go_enter Try.func53, Try.ntmps53
  go_wp2_with fail
  refine (CC.out _ (Below.refl _ _)).mono ?_
  rintro e w1 ⟨rfl, hb1⟩
  go_wp2_with fail
  refine (CX.out _ hb1).mono ?_
  rintro e w2 ⟨rfl, hb2⟩
  have HB := Lib.hid (hb1.trans (hb2.mono hb1.size))
  clear hb1 hb2
  go_wp2_with fail
  refine (HOR.out _ _ _ _ _ rfl (reads_cells (blk_al rfl) (Nat.lt_succ_self _) (by rfl) (by rfl)) (by simp) (by simp)).mono ?_
  rintro e w' ⟨rfl, rfl⟩
  obtain ⟨W2, hW2⟩ : ∃ W2, w2.alloc (.cells #[.int .i64 e1, .int .i64 e2] 27) = W2 := ⟨_, rfl⟩
  have HB : Hid (Below w.heap.size w W2) := Lib.hid (by rw [← hW2]; exact HB.out.alloc HB.out.size _)
  rw [hW2]
  clear hW2 CC CX HOR
  by_cases hz : er = 0
  · subst hz
    have hok := chEr_ok HER.out
    obtain ⟨⟨hl8, hcs⟩, hx4, hxw⟩ := hok
    have HCS := Lib.hid hcs
    have HXW := Lib.hid hxw
    have hn8 : n ≤ 8 := by have := HN.out; simp at hl8; omega
    have hnx4 : nx ≤ 4096 := by have := HNX.out; omega
    clear hcs hxw hl8 hx4
    obtain ⟨i0, hi0, hz0, hz1, hz2⟩ := info_parts info_step
    have HI0 := Lib.hid hi0
    have HZ0 := Lib.hid hz0
    have HZ1 := Lib.hid hz1
    have HZ2 := Lib.hid hz2
    clear hi0 hz0 hz1 hz2
    go_wp2_with fail
    go_loopw [7, 21] (fun v i wr => ∃ (j : Nat) (rs : List SR) (sv : Value), j ≤ n ∧ i = .int .i64 j ∧ sv = v ∧ Hid (rs.length = j) ∧ Hid (rs.map SR.c = (l.take j).map CV.c) ∧ Hid (wr.ownsRow w.heap.size 147 1 sv j (rs.map (SR.val true))) ∧ Hid (Lives wr w.heap.size true rs (rs.map fun _ => [])) ∧ Hid (Below w.heap.size w wr)) (fun _ i wr => n - (intOf i).toNat)
    case atStart => exact ⟨0, [], _, Nat.zero_le _, rfl, rfl, Lib.hid rfl, Lib.hid rfl, Lib.hid (World.ownsRow_nil _ _ _ _), Lib.hid Lives.nil_, HB⟩
    case round =>
      clear HB
      obtain ⟨j, rs, sv, hj, rfl, rfl, HL, HM, HO, HV, HB⟩ := hrel
      by_cases hlt : j < n
      · have hjl : j < l.length := by have := HN.out; omega
        obtain ⟨ad, hA, hbl, p0, p1, p2, hci⟩ := (H.out.below HB.out (Nat.le_refl _)).at_ (k := j) hjl
        obtain rfl := hA
        have hco := HCS.out l[j].c (List.mem_map.2 ⟨_, List.getElem_mem hjl, rfl⟩)
        have HMN : Hid (∀ s : SR, s.c = l[j].c → (rs ++ [s]).map SR.c = (l.take (j + 1)).map CV.c) := Lib.hid (fun s hs => map_snoc HM.out hjl hs)
        obtain ⟨t, ht⟩ : ∃ t, l[j] = t := ⟨_, rfl⟩
        rw [ht] at p0 p1 p2 hci hco HMN
        clear ht
        have HCI := Lib.hid hci
        have HCO := Lib.hid hco
        clear hci hco
        go_wp2_with fail
        obtain ⟨W, hW⟩ : ∃ W, wr.alloc (.cells #[.slice t.Af t.nf t.kf, .slice t.Ab t.nb t.kb, .int .i64 t.c.share] 43) = W := ⟨_, rfl⟩
        have hsw : w.heap.size ≤ wr.heap.size := HB.out.size
        have hbw : Below wr.heap.size wr W := by rw [← hW]; exact (Below.refl _ _).alloc (Nat.le_refl _) _
        have HB : Hid (Below w.heap.size w W) := Lib.hid (HB.out.trans (hbw.mono HB.out.size))
        have hk : Blk W wr.heap.size 43 #[.slice t.Af t.nf t.kf, .slice t.Ab t.nb t.kb, .int .i64 t.c.share] := by rw [← hW]; exact Blk.new _ _ _
        have HCI : Hid (CI W w.heap.size t) := Lib.hid (HCI.out.below hbw hsw)
        have HO : Hid (W.ownsRow w.heap.size 147 1 sv j (rs.map (SR.val true))) := Lib.hid (own_below HO.out hbw)
        have HV : Hid (Lives W w.heap.size true rs (rs.map fun _ => [])) := Lib.hid (HV.out.below hbw)
        rw [hW]
        clear hW p0 p1 p2 hbw
        obtain ⟨c0, c1, c2⟩ := hk.three_
        clear hk
        have hsw : w.heap.size ≤ W.heap.size := HB.out.size
        go_wp2_with fail
        refine (run_forth_any t.Af t.Ab t.nf t.kf t.nb t.kb t.c.share _).mono ?_
        rintro e w3 ⟨gd, g, rfl, r1, r2, r3, hb3, hd3, hs3⟩
        go_wp2_with (at_builtin; refine wpList_append_own _ rfl (.tmp 25) (.tmp 28) _ rfl w.heap.size 147 i0 _ 1 8 Try.underlying146 HI0.out HZ0.out HZ1.out HZ2.out rfl (by omega) _ j _ rfl ((own_below HO.out hb3).alloc _) ⟨w3.heap.size, 0, none⟩ 1 1 [SR.val true ⟨gd, g, t.Af, t.Ab, t.nf, t.kf, t.nb, t.kb, t.c⟩] rfl rfl (nine_new _ _ _) ?c1 ?c2 ?c3 ?c4 ?_)
        case c1 => intro x hx; simp at hx; subst hx; rfl
        case c2 => simp only [maxLen]; omega
        case c3 => omega
        case c4 => have := hb3.size; simp; omega
        intro v' w4 hown' hgrow _
        have hs3s : W.heap.size ≤ w3.heap.size := hb3.size
        have hb4 : Below w3.heap.size w3 (w3.alloc (.cells #[SR.val true ⟨gd, g, t.Af, t.Ab, t.nf, t.kf, t.nb, t.kb, t.c⟩] 147)) := (Below.refl _ _).alloc (Nat.le_refl _) _
        have hv3 : Lives w3 w.heap.size true rs (rs.map fun _ => []) := HV.out.below hb3
        have hl3 : Live w3 w.heap.size true ⟨gd, g, t.Af, t.Ab, t.nf, t.kf, t.nb, t.kb, t.c⟩ [] := ⟨hs3, hd3, HCI.out.f.below hb3 hsw, HCI.out.b.below hb3 hsw, by show _ ≤ g; omega, by show _ ≤ gd; omega, HCO.out, fun m hm => by cases hm⟩
        have hv4 := hv3.snoc hl3 (fun u hu e => by
          obtain ⟨i, hi, rfl⟩ := List.getElem_of_mem hu
          have h1 := (HV.out.at_ hi).st.lt
          have e' : rs[i].g = g := e
          omega)
        have HVN : Hid (Lives w4 w.heap.size true (rs ++ [⟨gd, g, t.Af, t.Ab, t.nf, t.kf, t.nb, t.kb, t.c⟩]) ((rs ++ [(⟨gd, g, t.Af, t.Ab, t.nf, t.kf, t.nb, t.kb, t.c⟩ : SR)]).map fun _ => [])) := Lib.hid (by
          have h := (hv4.below hb4).grown ((own_below HO.out hb3).alloc _) (Nat.le_refl _) (by decide) (by decide) hgrow
          rw [List.map_append]; exact h)
        have HON : Hid (w4.ownsRow w.heap.size 147 1 v' (j + 1) ((rs ++ [(⟨gd, g, t.Af, t.Ab, t.nf, t.kf, t.nb, t.kb, t.c⟩ : SR)]).map (SR.val true))) := Lib.hid (by rw [List.map_append]; exact hown')
        have HBN : Hid (Below w.heap.size w w4) := Lib.hid (((HB.out.trans (hb3.mono hsw)).trans (hb4.mono (by omega))).trans (grown_below hgrow (by simp; omega) (fun q hq => ((own_below HO.out hb3).lt q hq).1)))
        have HMM := Lib.hid (HMN.out (⟨gd, g, t.Af, t.Ab, t.nf, t.kf, t.nb, t.kb, t.c⟩ : SR) rfl)
        clear hown' hgrow hb4 hv3 hl3 hv4 hs3 hd3 hb3 HMN
        go_wp2
        go_roundw
        case rel => exact ⟨j + 1, _, v', by omega, by go_num, rfl, Lib.hid (by simp [HL.out]), HMM, HON, HVN, HBN⟩
        case measure => simp [intOf]; omega
      · obtain rfl : j = n := by omega
        obtain ⟨A', c', rfl, -⟩ := own_reads HO.out
        have hch : thr true 32767 (rs.map SR.c) (rs.map fun _ => []) xs = chain true (l.map CV.c) xs := by
          unfold chain
          rw [HM.out, List.take_of_length_le (by have := HN.out; omega)]
          have e1 : rs.map (fun _ => ([] : List (Int × Int))) = (rs.map SR.c).map fun _ => [] := by rw [List.map_map]; rfl
          rw [e1, HM.out, List.take_of_length_le (by have := HN.out; omega)]
          rfl
        have hfr : R = (chain true (l.map CV.c) xs).getD [] := by rw [← HR.out, chRes, if_pos HER.out]
        have hfe : E = if chain true (l.map CV.c) xs = none then 4 else 0 := by rw [← HE.out, chErr, if_pos HER.out]
        have TH : Hid (Calls Try.prog 119 #[.slice A' j c', .slice Ax nx kx, .int .i64 32767] wr (fun e w' => OutPost w.heap.size wr R E e w' ∧ KeepsOthers wr w')) := Lib.hid (by
          have h := through_any true w.heap.size w.heap.size A' j c' rs (rs.map fun _ => []) Ax nx kx xs 32767 wr HO.out HL.out.symm HV.out (HX.out.below HB.out (Nat.le_refl _)) HB.out.size hn8 hnx4 HXW.out (by omega) (by omega)
          rw [hch] at h
          rw [hfr, hfe]; exact h)
        clear hfr hfe
        clear hch HM HV HO HL HR HE
        go_wp2_with ((with_reducible refine TH.out.mono ?_); rintro e w5 ⟨⟨v, rfl, ho5, hb5⟩, -⟩)
        go_ret2
        exact ⟨_, rfl, ho5, HB.out.trans hb5⟩
  · obtain rfl : E = er := by rw [← HE.out, chErr, if_neg (by rw [HER.out]; exact hz), HER.out]
    obtain rfl : R = [] := by rw [← HR.out, chRes, if_neg (by rw [HER.out]; exact hz)]
    go_wp2
    go_ret2
    exact ⟨_, rfl, World.ownsRow_nil _ _ _ _, HB.out⟩
end Go.Proofs.Ytjaomjbhkgijbaa

/-
  One curve forwards: Apply.
-/
namespace Go.Proofs.Ytjaomjbhkgijbaa
open Go.RowKit

/-- What one curve makes of a signal, forwards (d) or back. -/
def oneEr (c : Cur) (xs : List Int) : Int := chEr [c] xs
def oneRes (d : Bool) (c : Cur) (xs : List Int) : List Int := chRes d [c] xs
def oneErr (d : Bool) (c : Cur) (xs : List Int) : Int := chErr d [c] xs
/-- A box with a curve, as a list of one. -/
theorem rc_one {W : World} {B g : Nat} {t : CV} (hb : Blk W g 43 #[.slice t.Af t.nf t.kf, .slice t.Ab t.nb t.kb, .int .i64 t.c.share]) (hg : g < B) (hc : CI W B t) : RC W B (some ⟨g, 0, none⟩) 1 [t] :=
  ⟨rfl, reads_cells hb hg rfl rfl, fun u hu => by rw [List.mem_singleton.1 hu]; exact hc⟩

set_option maxRecDepth 100000 in
set_option maxHeartbeats 1000000 in
theorem Apply_any (B : Nat) (t : CV) (Ax : Option Addr) (nx kx : Nat) (xs : List Int) (w : World) (hc : CI w B t) (hX : LI w B Ax nx xs) (hB : B ≤ w.heap.size) (hlx : nx ≤ 9223372036854775807) (hs : t.nf ≤ 9223372036854775807 ∧ t.nb ≤ 9223372036854775807) :
    Calls Try.prog 33 #[.agg #[.slice t.Af t.nf t.kf, .slice t.Ab t.nb t.kb, .int .i64 t.c.share], .slice Ax nx kx] w (OutPost w.heap.size w (oneRes true t.c xs) (oneErr true t.c xs)) := by
  have HC := Lib.hid (hc.more hB)
  have HX := Lib.hid (hX.more hB)
  have HS := Lib.hid (show CSm [t] from fun u hu => by rw [List.mem_singleton.1 hu]; exact hs)
  clear hc hX hB hs
  obtain ⟨R, hR⟩ : ∃ R, oneRes true t.c xs = R := ⟨_, rfl⟩
  obtain ⟨E, hE⟩ : ∃ R, oneErr true t.c xs = R := ⟨_, rfl⟩
  rw [hR, hE]
  have HR := Lib.hid hR
  have HE := Lib.hid hE
  clear hR hE
  go_enter Try.func33, Try.ntmps33
  go_upto_region 1 with fail
  obtain ⟨W, hW⟩ : ∃ W, w.alloc (.cells #[.slice t.Af t.nf t.kf, .slice t.Ab t.nb t.kb, .int .i64 t.c.share] 43) = W := ⟨_, rfl⟩
  have hbw : Below w.heap.size w W := by rw [← hW]; exact (Below.refl _ _).alloc (Nat.le_refl _) _
  have hk : Blk W w.heap.size 43 #[.slice t.Af t.nf t.kf, .slice t.Ab t.nb t.kb, .int .i64 t.c.share] := by rw [← hW]; exact Blk.new _ _ _
  rw [hW]
  clear hW
  have HBW := Lib.hid hbw
  obtain ⟨c0, c1, c2⟩ := hk.three_
  clear hk hbw
  go_wp2_with fail
  obtain ⟨V, hV⟩ : ∃ V, W.alloc (.cells #[.slice t.Af t.nf t.kf, .slice t.Ab t.nb t.kb, .int .i64 t.c.share] 43) = V := ⟨_, rfl⟩
  have hbv : Below W.heap.size W V := by rw [← hV]; exact (Below.refl _ _).alloc (Nat.le_refl _) _
  have hk : Blk V W.heap.size 43 #[.slice t.Af t.nf t.kf, .slice t.Ab t.nb t.kb, .int .i64 t.c.share] := by rw [← hV]; exact Blk.new _ _ _
  rw [hV]
  clear hV
  have hbw := HBW.out.trans (hbv.mono HBW.out.size)
  have hlt := hk.lt
  have hsw := HBW.out.size
  have AA := ApplyAll_any V.heap.size (some ⟨W.heap.size, 0, none⟩) 1 1 [t] Ax nx kx xs V (rc_one hk hlt ((HC.out.below hbw (Nat.le_refl _)).more hbw.size)) ((HX.out.below hbw (Nat.le_refl _)).more hbw.size) (Nat.le_refl _) (by omega) hlx HS.out
  have AA' : Calls Try.prog 53 #[.slice (some ⟨W.heap.size, 0, none⟩) 1 1, .slice Ax nx kx] V (OutPost V.heap.size V R E) := by rw [← HR.out, ← HE.out]; exact AA
  clear AA
  have AX := Lib.hid AA'
  have HBV := Lib.hid hbw
  clear AA' hbw hbv hk HC HX HS HR HE
  refine AX.out.mono ?_
  rintro e w5 ⟨v, rfl, ho5, hb5⟩
  go_wp2
  go_ret2
  exact ⟨_, rfl, own_base_ ho5 HBV.out.size, HBV.out.trans (hb5.mono HBV.out.size)⟩
end Go.Proofs.Ytjaomjbhkgijbaa

/-
  The checks of programmes and limiters of package filter.
-/
namespace Go.Proofs.Ytjaomjbhkgijbaa
open Go.RowKit

theorem wib_vs (l r : Int) : (wib l 32767 && wib r 32767) = vs l r := rfl
set_option maxHeartbeats 400000 in
theorem fvalidSample_any (l r : Int) (w : World) :
    Calls Try.prog 163 #[.agg #[.int .i64 l, .int .i64 r]] w fun e w' => e = .returned (.bool (vs l r)) ∧ Below w.heap.size w w' := by
  rw [← wib_vs]
  cases h1 : wib l 32767 <;> cases h2 : wib r 32767
  all_goals
    have H1 := Lib.hid h1
    have H2 := Lib.hid h2
    clear h1 h2
    go_enter Try.func163, Try.ntmps163
    go_wp2_with ((with_reducible refine (fwithin_any _ _ _ (by omega) (by omega)).mono ?_); rintro e w' ⟨rfl, rfl⟩; first | rw [H1.out] | rw [H2.out])
    go_ret
    exact ⟨rfl, (Below.refl _ _).alloc (Nat.le_refl _) _⟩

/-- 0: fine · 6: too many · 3: out of range. -/
def ckQ (xs : List Smp) : Int := if 4096 < xs.length then 6 else if vss xs then 0 else 3
set_option maxHeartbeats 1000000 in
theorem checkProgramme_any (B : Nat) (A : Option Addr) (n c : Nat) (xs : List Smp) (w : World) (h0 : RS w B A n xs) (hB : B ≤ w.heap.size) (hl : n ≤ 9223372036854775807) :
    Calls Try.prog 107 #[.slice A n c] w fun e w' => e = .returned (.int .i64 (ckQ xs)) ∧ Below w.heap.size w w' := by
  have H := Lib.hid (h0.more hB)
  have HN := Lib.hid h0.1
  clear hB h0
  by_cases hl2 : 4096 < n
  · go_enter Try.func107, Try.ntmps107
    go_wp2
    go_ret
    exact ⟨ret_i (by unfold ckQ; rw [if_pos (by have := HN.out; omega)]), Below.refl _ _⟩
  · have hck : ckQ xs = if vss xs then 0 else 3 := by unfold ckQ; rw [if_neg (by have := HN.out; omega)]
    have HCK := Lib.hid hck
    clear hck
    go_enter Try.func107, Try.ntmps107
    go_wp2
    go_loopw [10] (fun i wr => ∃ k : Nat, k ≤ n ∧ i = .int .i64 k ∧ Below w.heap.size w wr ∧ vss (xs.take k) = true) (fun i wr => n - (intOf i).toNat)
    case atStart => exact ⟨0, Nat.zero_le _, rfl, Below.refl _ _, rfl⟩
    case round =>
      obtain ⟨k, hk, rfl, hb, hv⟩ := hrel
      by_cases hlt : k < n
      · obtain ⟨ad, hA, hbl, h1, h2⟩ := (H.out.below hb (Nat.le_refl _)).at_ (k := k) (by have := HN.out; omega)
        obtain rfl := hA
        cases hx : vs xs[k].1 xs[k].2
        all_goals
          have HX := Lib.hid hx
          clear hx
          go_wp2_with ((with_reducible refine (fvalidSample_any _ _ _).mono ?_); rintro e w' ⟨rfl, hb1⟩; (try rw [HX.out]))
        · go_ret
          exact ⟨ret_i (by rw [HCK.out, vss_false xs k (by have := HN.out; omega) HX.out]; rfl), (hb.alloc hb.size _).trans (hb1.mono (by have := hb.size; simp; omega))⟩
        · go_roundw
          case rel =>
            refine ⟨k + 1, by omega, by go_num, (hb.alloc hb.size _).trans (hb1.mono (by have := hb.size; simp; omega)), ?_⟩
            rw [vss_take xs k (by have := HN.out; omega), hv, HX.out]; rfl
          case measure => simp [intOf]; omega
      · go_wp2
        go_ret
        rw [List.take_of_length_le (by have := HN.out; omega)] at hv
        exact ⟨ret_i (by rw [HCK.out, hv]; rfl), hb⟩

def rngE (x lo hi : Int) : Int := if x < lo ∨ hi < x then 3 else 0
set_option maxHeartbeats 400000 in
theorem fcheckRange_any (x lo hi : Int) (w : World) :
    Calls Try.prog 103 #[.int .i64 x, .int .i64 lo, .int .i64 hi] w fun e w' => e = .returned (.int .i64 (rngE x lo hi)) ∧ w = w' := by
  unfold rngE
  by_cases h1 : x < lo
  · rw [if_pos (.inl h1)]
    go_enter Try.func103, Try.ntmps103
    go_wp2
    go_ret
    exact ⟨rfl, rfl⟩
  · by_cases h2 : hi < x
    · rw [if_pos (.inr h2)]
      go_enter Try.func103, Try.ntmps103
      go_wp2
      go_ret
      exact ⟨rfl, rfl⟩
    · rw [if_neg (by omega)]
      go_enter Try.func103, Try.ntmps103
      go_wp2
      go_ret
      exact ⟨rfl, rfl⟩
def ckCe (xs : List Smp) (ce : Int) : Int := orL [ckQ xs, rngE ce 1 32767]
def ckLi (xs : List Smp) (ce st : Int) : Int := orL [ckCe xs ce, rngE st 0 256]
set_option maxHeartbeats 400000 in
theorem checkCeiling_any (B : Nat) (A : Option Addr) (n c : Nat) (xs : List Smp) (ce : Int) (w : World) (h0 : RS w B A n xs) (hB : B ≤ w.heap.size) (hl : n ≤ 9223372036854775807) :
    Calls Try.prog 185 #[.slice A n c, .int .i64 ce] w fun e w' => e = .returned (.int .i64 (ckCe xs ce)) ∧ Below w.heap.size w w' := by
  have H := Lib.hid (h0.more hB)
  clear hB h0
  have HCE : Hid (ckCe xs ce = orL [ckQ xs, rngE ce 1 32767]) := Lib.hid rfl
  obtain ⟨e1, he1⟩ : ∃ e, ckQ xs = e := ⟨_, rfl⟩
  obtain ⟨e2, he2⟩ : ∃ e, rngE ce 1 32767 = e := ⟨_, rfl⟩
  have HOR := Lib.hid (fun B A n c W h1 h2 h3 h4 => cmpOr_any B A n c [e1, e2] W h1 h2 h3 h4)
  rw [he1, he2] at HCE
  have HE1 := Lib.hid he1
  have HE2 := Lib.hid he2
  clear he1 he2
  go_enter Try.func185, Try.ntmps185
  go_wp2_with fail
  refine (checkProgramme_any _ A n c xs _ H.out (Nat.le_refl _) hl).mono ?_
  rintro e w1 ⟨rfl, hb1⟩
  rw [HE1.out]
  go_wp2_with fail
  refine (fcheckRange_any _ _ _ _).mono ?_
  rintro e w2 ⟨rfl, rfl⟩
  rw [HE2.out]
  go_wp2_with fail
  refine (HOR.out _ _ _ _ _ rfl (reads_cells (blk_al rfl) (Nat.lt_succ_self _) (by rfl) (by rfl)) (by simp) (by simp)).mono ?_
  rintro e w' ⟨rfl, rfl⟩
  go_wp2
  go_ret
  exact ⟨ret_i HCE.out.symm, hb1.alloc hb1.size _⟩
set_option maxHeartbeats 400000 in
theorem checkLimiter_any (B : Nat) (A : Option Addr) (n c : Nat) (xs : List Smp) (ce st : Int) (w : World) (h0 : RS w B A n xs) (hB : B ≤ w.heap.size) (hl : n ≤ 9223372036854775807) :
    Calls Try.prog 157 #[.slice A n c, .int .i64 ce, .int .i64 st] w fun e w' => e = .returned (.int .i64 (ckLi xs ce st)) ∧ Below w.heap.size w w' := by
  have H := Lib.hid (h0.more hB)
  clear hB h0
  have HCE : Hid (ckLi xs ce st = orL [ckCe xs ce, rngE st 0 256]) := Lib.hid rfl
  obtain ⟨e1, he1⟩ : ∃ e, ckCe xs ce = e := ⟨_, rfl⟩
  obtain ⟨e2, he2⟩ : ∃ e, rngE st 0 256 = e := ⟨_, rfl⟩
  have HOR := Lib.hid (fun B A n c W h1 h2 h3 h4 => cmpOr_any B A n c [e1, e2] W h1 h2 h3 h4)
  rw [he1, he2] at HCE
  have HE1 := Lib.hid he1
  have HE2 := Lib.hid he2
  clear he1 he2
  go_enter Try.func157, Try.ntmps157
  go_wp2_with fail
  refine (checkCeiling_any _ A n c xs ce _ H.out (Nat.le_refl _) hl).mono ?_
  rintro e w1 ⟨rfl, hb1⟩
  rw [HE1.out]
  go_wp2_with fail
  refine (fcheckRange_any _ _ _ _).mono ?_
  rintro e w2 ⟨rfl, rfl⟩
  rw [HE2.out]
  go_wp2_with fail
  refine (HOR.out _ _ _ _ _ rfl (reads_cells (blk_al rfl) (Nat.lt_succ_self _) (by rfl) (by rfl)) (by simp) (by simp)).mono ?_
  rintro e w' ⟨rfl, rfl⟩
  go_wp2
  go_ret
  exact ⟨ret_i HCE.out.symm, hb1.alloc hb1.size _⟩
end Go.Proofs.Ytjaomjbhkgijbaa

