/-
  Chains forwards: ApplyAll and Apply.
-/
import Derived.Test.YtilihdkfflfniaaU6
import Derived.Test.YtilihdkfflfniaaU8
import Derived.Test.YtilihdkfflfniaaW2
namespace Go.Proofs.Ytilihdkfflfniaa
open Go.RowKit

theorem info_step : (Try.prog.info? 65).map (fun i => (i.zero, i.size, i.bytes)) = some (some .nilFunc, 1, 8) := by kernel_rfl
/-- What a chain makes of a signal: the errors first. -/
def chEr (l : List Cur) (xs : List Int) : Int := orL [ckCs l, ckX xs]
def chain (d : Bool) (l : List Cur) (xs : List Int) : Option (List Int) := thr d 32767 (if d then l else l.reverse) (l.map fun _ => []) xs
def chRes (d : Bool) (l : List Cur) (xs : List Int) : List Int := if chEr l xs = 0 then (chain d l xs).getD [] else []
def chErr (d : Bool) (l : List Cur) (xs : List Int) : Int := if chEr l xs = 0 then (if chain d l xs = none then 4 else 0) else chEr l xs
theorem ckX_ok {xs : List Int} (h : ckX xs = 0) : xs.length ≤ 4096 ∧ ∀ x ∈ xs, wib x 32767 = true := by
  unfold ckX at h
  split at h
  · cases h
  · split at h
    · rename_i h1 h2
      unfold wibs at h2
      rw [List.all_eq_true] at h2
      exact ⟨by omega, h2⟩
    · cases h
theorem chEr_ok {l : List Cur} {xs : List Int} (h : chEr l xs = 0) : (l.length ≤ 8 ∧ ∀ c ∈ l, CurOk c) ∧ xs.length ≤ 4096 ∧ ∀ x ∈ xs, wib x 32767 = true := by
  unfold chEr orL at h
  split at h
  · rename_i h1
    unfold ckCs at h1
    split at h1
    · cases h1
    · refine ⟨⟨by omega, fun c hc => ckV_ok (errs_ok h1 c hc)⟩, ckX_ok ?_⟩
      unfold orL at h
      split at h
      · assumption
      · exact h
  · rename_i h1
    exact absurd h h1
theorem Lives.snoc {w : World} {B : Nat} {dir : Bool} {l : List SR} {hs : List (List (Int × Int))} {s : SR} {h : List (Int × Int)} (H : Lives w B dir l hs) (hv : Live w B dir s h) (hne : ∀ t ∈ l, t.g ≠ s.g) : Lives w B dir (l ++ [s]) (hs ++ [h]) := by
  have hl := H.len
  refine ⟨by simp [hl], fun i j hi hj e => ?_, fun i hi hh => ?_⟩
  · simp at hi hj
    by_cases h1 : i < l.length <;> by_cases h2 : j < l.length
    · rw [List.getElem_append_left h1, List.getElem_append_left h2] at e
      exact H.inj i j h1 h2 e
    · rw [List.getElem_append_left h1, List.getElem_append_right (by omega)] at e
      simp at e
      exact absurd e (hne _ (List.getElem_mem h1))
    · rw [List.getElem_append_left h2, List.getElem_append_right (by omega)] at e
      simp at e
      exact absurd e.symm (hne _ (List.getElem_mem h2))
    · omega
  · simp at hi
    by_cases h1 : i < l.length
    · rw [List.getElem_append_left h1, List.getElem_append_left (by omega)]
      exact H.all i h1 (by omega)
    · rw [List.getElem_append_right (by omega), List.getElem_append_right (by omega)]
      simpa using hv
theorem map_snoc {rs : List SR} {l : List CV} {j : Nat} (h : rs.map SR.c = (l.take j).map CV.c) (hj : j < l.length) {s : SR} (hs : s.c = l[j].c) : (rs ++ [s]).map SR.c = (l.take (j + 1)).map CV.c := by
  rw [List.map_append, h, List.take_succ_eq_append_getElem hj, List.map_append]
  simp [hs]

set_option maxRecDepth 100000 in
set_option maxHeartbeats 4000000 in
theorem ApplyAll_any (B : Nat) (A : Option Addr) (n k : Nat) (l : List CV) (Ax : Option Addr) (nx kx : Nat) (xs : List Int) (w : World) (h0 : RC w B A n l) (hX : LI w B Ax nx xs) (hB : B ≤ w.heap.size) (hl : n ≤ 9223372036854775807) (hlx : nx ≤ 9223372036854775807) (hs : CSm l) :
    Calls Try.prog 20 #[.slice A n k, .slice Ax nx kx] w (OutPost w.heap.size w (chRes true (l.map CV.c) xs) (chErr true (l.map CV.c) xs)) := by
  have HN := Lib.hid h0.1
  have H := Lib.hid (h0.more hB)
  have HX := Lib.hid (hX.more hB)
  have HNX := Lib.hid hX.1
  have HS := Lib.hid hs
  clear h0 hX hB hs
  have CC := Lib.hid (fun W (hb : Below w.heap.size w W) => checkCurves_any w.heap.size A n k l W (H.out.below hb (Nat.le_refl _)) hb.size hl HS.out)
  have CX := Lib.hid (fun W (hb : Below w.heap.size w W) => checkSignal_any w.heap.size Ax nx kx xs W (HX.out.below hb (Nat.le_refl _)) hb.size hlx)
  obtain ⟨e1, he1⟩ : ∃ e, ckCs (l.map CV.c) = e := ⟨_, rfl⟩
  obtain ⟨e2, he2⟩ : ∃ e, ckX xs = e := ⟨_, rfl⟩
  have HOR := Lib.hid (fun B A n c W h1 h2 h3 h4 => cmpOr_any B A n c [e1, e2] W h1 h2 h3 h4)
  have HER : Hid (chEr (l.map CV.c) xs = orL [e1, e2]) := Lib.hid (by unfold chEr; rw [he1, he2])
  rw [he1] at CC
  rw [he2] at CX
  clear he1 he2
  obtain ⟨er, her⟩ : ∃ e, orL [e1, e2] = e := ⟨_, rfl⟩
  rw [her] at HOR HER
  clear her
  obtain ⟨R, hR⟩ : ∃ R, chRes true (l.map CV.c) xs = R := ⟨_, rfl⟩
  obtain ⟨E, hE⟩ : ∃ R, chErr true (l.map CV.c) xs = R := ⟨_, rfl⟩
  rw [hR, hE]
  have HR := Lib.hid hR
  have HE := Lib.hid hE
  clear hR hE
  go_enter Try.func20, Try.ntmps20
  go_wp2_with fail
  refine (CC.out _ (Below.refl _ _)).mono ?_
  rintro e w1 ⟨rfl, hb1⟩
  go_wp2_with fail
  refine (CX.out _ hb1).mono ?_
  rintro e w2 ⟨rfl, hb2⟩
  have HB := Lib.hid (hb1.trans (hb2.mono hb1.size))
  clear hb1 hb2
  go_wp2_with fail
  refine (HOR.out _ _ _ _ _ rfl (reads_cells (blk_al rfl) (Nat.lt_succ_self _) (by rfl) (by rfl)) (by simp) (by simp)).mono ?_
  rintro e w' ⟨rfl, rfl⟩
  obtain ⟨W2, hW2⟩ : ∃ W2, w2.alloc (.cells #[.int .i64 e1, .int .i64 e2] 29) = W2 := ⟨_, rfl⟩
  have HB : Hid (Below w.heap.size w W2) := Lib.hid (by rw [← hW2]; exact HB.out.alloc HB.out.size _)
  rw [hW2]
  clear hW2 CC CX HOR
  by_cases hz : er = 0
  · subst hz
    have hok := chEr_ok HER.out
    obtain ⟨⟨hl8, hcs⟩, hx4, hxw⟩ := hok
    have HCS := Lib.hid hcs
    have HXW := Lib.hid hxw
    have hn8 : n ≤ 8 := by have := HN.out; simp at hl8; omega
    have hnx4 : nx ≤ 4096 := by have := HNX.out; omega
    clear hcs hxw hl8 hx4
    obtain ⟨i0, hi0, hz0, hz1, hz2⟩ := info_parts info_step
    have HI0 := Lib.hid hi0
    have HZ0 := Lib.hid hz0
    have HZ1 := Lib.hid hz1
    have HZ2 := Lib.hid hz2
    clear hi0 hz0 hz1 hz2
    go_wp2_with fail
    go_loopw [7, 21] (fun v i wr => ∃ (j : Nat) (rs : List SR) (sv : Value), j ≤ n ∧ i = .int .i64 j ∧ sv = v ∧ Hid (rs.length = j) ∧ Hid (rs.map SR.c = (l.take j).map CV.c) ∧ Hid (wr.ownsRow w.heap.size 65 1 sv j (rs.map (SR.val true))) ∧ Hid (Lives wr w.heap.size true rs (rs.map fun _ => [])) ∧ Hid (Below w.heap.size w wr)) (fun _ i wr => n - (intOf i).toNat)
    case atStart => exact ⟨0, [], _, Nat.zero_le _, rfl, rfl, Lib.hid rfl, Lib.hid rfl, Lib.hid (World.ownsRow_nil _ _ _ _), Lib.hid Lives.nil_, HB⟩
    case round =>
      clear HB
      obtain ⟨j, rs, sv, hj, rfl, rfl, HL, HM, HO, HV, HB⟩ := hrel
      by_cases hlt : j < n
      · have hjl : j < l.length := by have := HN.out; omega
        obtain ⟨ad, hA, hbl, p0, p1, p2, hci⟩ := (H.out.below HB.out (Nat.le_refl _)).at_ (k := j) hjl
        obtain rfl := hA
        have hco := HCS.out l[j].c (List.mem_map.2 ⟨_, List.getElem_mem hjl, rfl⟩)
        have HMN : Hid (∀ s : SR, s.c = l[j].c → (rs ++ [s]).map SR.c = (l.take (j + 1)).map CV.c) := Lib.hid (fun s hs => map_snoc HM.out hjl hs)
        obtain ⟨t, ht⟩ : ∃ t, l[j] = t := ⟨_, rfl⟩
        rw [ht] at p0 p1 p2 hci hco HMN
        clear ht
        have HCI := Lib.hid hci
        have HCO := Lib.hid hco
        clear hci hco
        go_wp2_with fail
        obtain ⟨W, hW⟩ : ∃ W, wr.alloc (.cells #[.slice t.Af t.nf t.kf, .slice t.Ab t.nb t.kb, .int .i64 t.c.share] 24) = W := ⟨_, rfl⟩
        have hsw : w.heap.size ≤ wr.heap.size := HB.out.size
        have hbw : Below wr.heap.size wr W := by rw [← hW]; exact (Below.refl _ _).alloc (Nat.le_refl _) _
        have HB : Hid (Below w.heap.size w W) := Lib.hid (HB.out.trans (hbw.mono HB.out.size))
        have hk : Blk W wr.heap.size 24 #[.slice t.Af t.nf t.kf, .slice t.Ab t.nb t.kb, .int .i64 t.c.share] := by rw [← hW]; exact Blk.new _ _ _
        have HCI : Hid (CI W w.heap.size t) := Lib.hid (HCI.out.below hbw hsw)
        have HO : Hid (W.ownsRow w.heap.size 65 1 sv j (rs.map (SR.val true))) := Lib.hid (own_below HO.out hbw)
        have HV : Hid (Lives W w.heap.size true rs (rs.map fun _ => [])) := Lib.hid (HV.out.below hbw)
        rw [hW]
        clear hW p0 p1 p2 hbw
        obtain ⟨c0, c1, c2⟩ := hk.three_
        clear hk
        have hsw : w.heap.size ≤ W.heap.size := HB.out.size
        go_wp2_with fail
        refine (run_forth_any t.Af t.Ab t.nf t.kf t.nb t.kb t.c.share _).mono ?_
        rintro e w3 ⟨gd, g, rfl, r1, r2, r3, hb3, hd3, hs3⟩
        go_wp2_with (at_builtin; refine wpList_append_own _ rfl (.tmp 25) (.tmp 28) _ rfl w.heap.size 65 i0 _ 1 8 Try.underlying64 HI0.out HZ0.out HZ1.out HZ2.out rfl (by omega) _ j _ rfl ((own_below HO.out hb3).alloc _) ⟨w3.heap.size, 0, none⟩ 1 1 [SR.val true ⟨gd, g, t.Af, t.Ab, t.nf, t.kf, t.nb, t.kb, t.c⟩] rfl rfl (nine_new _ _ _) ?c1 ?c2 ?c3 ?c4 ?_)
        case c1 => intro x hx; simp at hx; subst hx; rfl
        case c2 => simp only [maxLen]; omega
        case c3 => omega
        case c4 => have := hb3.size; simp; omega
        intro v' w4 hown' hgrow _
        have hs3s : W.heap.size ≤ w3.heap.size := hb3.size
        have hb4 : Below w3.heap.size w3 (w3.alloc (.cells #[SR.val true ⟨gd, g, t.Af, t.Ab, t.nf, t.kf, t.nb, t.kb, t.c⟩] 65)) := (Below.refl _ _).alloc (Nat.le_refl _) _
        have hv3 : Lives w3 w.heap.size true rs (rs.map fun _ => []) := HV.out.below hb3
        have hl3 : Live w3 w.heap.size true ⟨gd, g, t.Af, t.Ab, t.nf, t.kf, t.nb, t.kb, t.c⟩ [] := ⟨hs3, hd3, HCI.out.f.below hb3 hsw, HCI.out.b.below hb3 hsw, by show _ ≤ g; omega, by show _ ≤ gd; omega, HCO.out, fun m hm => by cases hm⟩
        have hv4 := hv3.snoc hl3 (fun u hu e => by
          obtain ⟨i, hi, rfl⟩ := List.getElem_of_mem hu
          have h1 := (HV.out.at_ hi).st.lt
          have e' : rs[i].g = g := e
          omega)
        have HVN : Hid (Lives w4 w.heap.size true (rs ++ [⟨gd, g, t.Af, t.Ab, t.nf, t.kf, t.nb, t.kb, t.c⟩]) ((rs ++ [(⟨gd, g, t.Af, t.Ab, t.nf, t.kf, t.nb, t.kb, t.c⟩ : SR)]).map fun _ => [])) := Lib.hid (by
          have h := (hv4.below hb4).grown ((own_below HO.out hb3).alloc _) (Nat.le_refl _) (by decide) (by decide) hgrow
          rw [List.map_append]; exact h)
        have HON : Hid (w4.ownsRow w.heap.size 65 1 v' (j + 1) ((rs ++ [(⟨gd, g, t.Af, t.Ab, t.nf, t.kf, t.nb, t.kb, t.c⟩ : SR)]).map (SR.val true))) := Lib.hid (by rw [List.map_append]; exact hown')
        have HBN : Hid (Below w.heap.size w w4) := Lib.hid (((HB.out.trans (hb3.mono hsw)).trans (hb4.mono (by omega))).trans (grown_below hgrow (by simp; omega) (fun q hq => ((own_below HO.out hb3).lt q hq).1)))
        have HMM := Lib.hid (HMN.out (⟨gd, g, t.Af, t.Ab, t.nf, t.kf, t.nb, t.kb, t.c⟩ : SR) rfl)
        clear hown' hgrow hb4 hv3 hl3 hv4 hs3 hd3 hb3 HMN
        go_wp2
        go_roundw
        case rel => exact ⟨j + 1, _, v', by omega, by go_num, rfl, Lib.hid (by simp [HL.out]), HMM, HON, HVN, HBN⟩
        case measure => simp [intOf]; omega
      · obtain rfl : j = n := by omega
        obtain ⟨A', c', rfl, -⟩ := own_reads HO.out
        have hch : thr true 32767 (rs.map SR.c) (rs.map fun _ => []) xs = chain true (l.map CV.c) xs := by
          unfold chain
          rw [HM.out, List.take_of_length_le (by have := HN.out; omega)]
          have e1 : rs.map (fun _ => ([] : List (Int × Int))) = (rs.map SR.c).map fun _ => [] := by rw [List.map_map]; rfl
          rw [e1, HM.out, List.take_of_length_le (by have := HN.out; omega)]
          rfl
        have hfr : R = (chain true (l.map CV.c) xs).getD [] := by rw [← HR.out, chRes, if_pos HER.out]
        have hfe : E = if chain true (l.map CV.c) xs = none then 4 else 0 := by rw [← HE.out, chErr, if_pos HER.out]
        have TH : Hid (Calls Try.prog 50 #[.slice A' j c', .slice Ax nx kx, .int .i64 32767] wr (fun e w' => OutPost w.heap.size wr R E e w' ∧ KeepsOthers wr w')) := Lib.hid (by
          have h := through_any true w.heap.size w.heap.size A' j c' rs (rs.map fun _ => []) Ax nx kx xs 32767 wr HO.out HL.out.symm HV.out (HX.out.below HB.out (Nat.le_refl _)) HB.out.size hn8 hnx4 HXW.out (by omega) (by omega)
          rw [hch] at h
          rw [hfr, hfe]; exact h)
        clear hfr hfe
        clear hch HM HV HO HL HR HE
        go_wp2_with ((with_reducible refine TH.out.mono ?_); rintro e w5 ⟨⟨v, rfl, ho5, hb5⟩, -⟩)
        go_ret2
        exact ⟨_, rfl, ho5, HB.out.trans hb5⟩
  · obtain rfl : E = er := by rw [← HE.out, chErr, if_neg (by rw [HER.out]; exact hz), HER.out]
    obtain rfl : R = [] := by rw [← HR.out, chRes, if_neg (by rw [HER.out]; exact hz)]
    go_wp2
    go_ret2
    exact ⟨_, rfl, World.ownsRow_nil _ _ _ _, HB.out⟩
end Go.Proofs.Ytilihdkfflfniaa
