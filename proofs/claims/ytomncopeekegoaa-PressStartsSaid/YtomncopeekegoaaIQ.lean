/-
  The document's Starts.
-/
import Derived.Test.YtomncopeekegoaaIP
namespace Go.Proofs.Ytomncopeekegoaa
open Go.RowKit

def lenV : Value → Nat
  | .slice _ n _ => n
  | _ => 0
theorem ear_bd {p b : Nat} {st rs : Int} (hs : 1 ≤ st ∧ st ≤ 65536) (hr : 1 ≤ rs ∧ rs ≤ 65536) {k : Nat} (hk : k ≤ 1000) : ear p b st rs (srt p b st rs k) ≤ 131203072 := by
  have h := ear_le (p := p) (b := b) (st := st) (rs := rs) (M := k * 131072) (l := srt p b st rs k) (by omega) (by omega) (by omega) (fun x hx => (srt_bd hs hr k x hx).2)
  omega
theorem mem_le {l : List Int} {t : Int} (h : ∀ i, i < l.length → l.getD i 0 ≤ t) : ∀ x ∈ l, x ≤ t := fun x hx => by
  obtain ⟨i, hi, rfl⟩ := List.getElem_of_mem hx
  have := h i hi
  rwa [List.getD_eq_getElem?_getD, List.getElem?_eq_getElem hi] at this

set_option maxRecDepth 100000 in
set_option maxHeartbeats 16000000 in
theorem refStarts_any (p b st rs n : Int) (w : World) :
    Calls Try.prog 27 #[.int .i64 p, .int .i64 b, .int .i64 st, .int .i64 rs, .int .i64 n] w fun e w' =>
      ∃ A k c, e = .returned (.tuple #[.slice A k c, .int .i64 (ckH p b st rs n)]) ∧ LI w' w'.heap.size A k (srtV p b st rs n) ∧ k ≤ c ∧ k ≤ 1000 ∧ Below w.heap.size w w' := by
  obtain ⟨er, her⟩ : ∃ er, ckH p b st rs n = er := ⟨_, rfl⟩
  by_cases h0 : er = 0
  · subst h0
    obtain ⟨hp, hb, hst, hrs, hn⟩ := ckH_0.1 her
    obtain ⟨p', rfl⟩ : ∃ x : Nat, p = x := ⟨p.toNat, by omega⟩
    obtain ⟨b', rfl⟩ : ∃ x : Nat, b = x := ⟨b.toNat, by omega⟩
    obtain ⟨n', rfl⟩ : ∃ x : Nat, n = x := ⟨n.toNat, by omega⟩
    have hp1 : 1 ≤ p' := by omega
    have hb1 : 1 ≤ b' := by omega
    have hn1 : n' ≤ 1000 := by omega
    have HV : Hid (srtV p' b' st rs n' = srt p' b' st rs n') := Lib.hid (by simp [srtV, her])
    have HER := Lib.hid her
    have HOK := Lib.hid (fun k => srt_ok (st := st) (rs := rs) hp1 hb1 k)
    have HBD := Lib.hid (fun k => srt_bd (p := p') (b := b') hst hrs k)
    have HEB := Lib.hid (fun (k : Nat) (hk : k ≤ 1000) => ear_bd (p := p') (b := b') hst hrs hk)
    have HLN := Lib.hid (fun k => srt_len p' b' st rs k)
    have HSN : Hid (∀ k, srt p' b' st rs (k + 1) = srt p' b' st rs k ++ [ear p' b' st rs (srt p' b' st rs k)]) := Lib.hid (fun k => rfl)
    have HFR := Lib.hid (fun k t (ht : 0 ≤ t) => free_iff (st := st) (rs := rs) (t := t) (HOK.out k).1 hp1 hb1 ht)
    have HSG := Lib.hid (fun k => ear_snoc_ge (st := st) (rs := rs) (HOK.out k).1 hp1 hb1 (fun i hi => (HOK.out k).2 i (by rw [HLN.out] at hi; exact hi)))
    have HGT := Lib.hid (fun k t nx (ht : 0 ≤ t) h1 h2 => ear_gt (p := p') (b := b') (st := st) (rs := rs) (t := t) (nx := nx) (l := srt p' b' st rs k) hp1 hb1 ht h1 h2)
    obtain ⟨i0, hi0, hz0, hz1, hz2⟩ := info_parts info_i64
    have HI0 := Lib.hid hi0
    have HZ0 := Lib.hid hz0
    have HZ1 := Lib.hid hz1
    have HZ2 := Lib.hid hz2
    obtain ⟨F, hF⟩ : ∃ F : Nat → List Int, srt p' b' st rs = F := ⟨_, rfl⟩
    obtain ⟨E, hE⟩ : ∃ E : List Int → Int, ear p' b' st rs = E := ⟨_, rfl⟩
    rw [hF] at HV
    rw [hF, hE] at HOK HEB HSN HFR HSG HGT
    rw [hF] at HBD HLN
    have HF0 : Hid (F 0 = []) := Lib.hid (by rw [← hF]; rfl)
    have HE0 : Hid (0 ≤ E (F 0)) := Lib.hid (by rw [← hE]; exact ear_nonneg _ _ _ _ _)
    clear her hi0 hz0 hz1 hz2 hF hE hp hb hn
    go_enter Try.func27, Try.ntmps27
    go_wp2_with fail
    refine (boiler_any _ _ _ _ _ _).mono ?_
    rintro e w1 ⟨rfl, rfl⟩
    rw [HER.out]
    go_wp2
    go_loopw [13, 14] (fun ov tv wr => ∃ (j : Nat) (t : Int) (sv : Value), ov = sv ∧ tv = .int .i64 t ∧ j ≤ n' ∧ lenV sv = j ∧ 0 ≤ t ∧ t ≤ 131203072 ∧ Hid (t ≤ E (F j)) ∧ Hid (∀ i, i < j → (F j).getD i 0 ≤ t) ∧ Hid (wr.ownsRow w.heap.size 2 1 sv j (nums (F j))) ∧ Hid (Below w.heap.size w wr) ∧ w.heap.size ≤ wr.heap.size) (fun ov tv _ => (n' - lenV ov) * 1000000000 + (E (F (lenV ov)) - intOf tv).toNat)
    case atStart => exact ⟨0, 0, _, rfl, rfl, Nat.zero_le _, rfl, Int.le_refl _, by omega, HE0, Lib.hid (fun i hi => absurd hi (by omega)), Lib.hid (by rw [HF0.out]; exact World.ownsRow_nil _ _ _ _), Lib.hid (Below.refl _ _), Nat.le_refl _⟩
    case round =>
      obtain ⟨j, t, sv, rfl, rfl, hj, hlv, ht0, ht1, HTE, HLT, HO, HB, hsz⟩ := hrel
      obtain ⟨Ao, co, rfl, hL, hc⟩ := own_readsU HO.out
      clear hlv
      by_cases hlt : j < n'
      · have hbdj := HBD.out j
        have BS := Lib.hid (fun L => busy_any wr.heap.size Ao j co (F j) t L wr hL (by omega) (fun x hx => by have := hbdj x hx; omega) (by omega))
        have hfr := HFR.out j t ht0
        have heb := HEB.out j (by omega)
        have w1 : IntKind.i64.wrap (st + rs) = st + rs := IntWalk.i64_in _ (by omega)
        have g1 : (j : Int) < (n' : Int) := by omega
        obtain ⟨y1, hy1⟩ : ∃ y, bsy (F j) t st = y := ⟨_, rfl⟩
        obtain ⟨y2, hy2⟩ : ∃ y, bsy (F j) t (st + rs) = y := ⟨_, rfl⟩
        rw [hy1, hy2] at hfr
        have HY1 := Lib.hid hy1
        have HY2 := Lib.hid hy2
        have HLI := Lib.hid hL
        clear hy1 hy2 hL hbdj
        by_cases hfree : E (F j) ≤ t
        · have hte : t = E (F j) := by have := HTE.out; omega
          obtain ⟨z1, z2⟩ := hfr.2 hfree
          have HT : Hid (F (j + 1) = F j ++ [t]) := Lib.hid (by rw [HSN.out, ← hte])
          have HTN : Hid (t ≤ E (F (j + 1))) := Lib.hid (by have := HSG.out j; rw [HSN.out]; omega)
          have HLTN : Hid (∀ i, i < j + 1 → (F (j + 1)).getD i 0 ≤ t) := Lib.hid (fun i hi => by
            rw [HT.out]
            have hl := HLN.out j
            rcases Nat.lt_or_ge i j with h | h
            · rw [getD_snoc_lt (by omega)]; exact HLT.out i h
            · have : i = (F j).length := by omega
              rw [this, getD_snoc_eq]; exact Int.le_refl _)
          have heb2 := HEB.out (j + 1) (by omega)
          have g2 : (y1 : Int) < (b' : Int) := by omega
          have g3 : (y2 : Int) < (p' : Int) := by omega
          clear hfr hfree hte
          go_wp2_with fail
          refine (BS.out _).mono ?_
          rintro e w_ ⟨rfl, rfl⟩
          rw [HY1.out]
          go_wp2_with fail
          refine (BS.out _).mono ?_
          rintro e w_ ⟨rfl, rfl⟩
          rw [HY2.out]
          go_wp2_with (at_builtin; refine wpList_append_own _ rfl (.tmp 46) (.tmp 48) _ rfl w.heap.size 2 i0 _ 1 8 Try.underlying37 HI0.out HZ0.out HZ1.out HZ2.out rfl (by omega) _ j (nums (F j)) rfl (HO.out.alloc _) ⟨wr.heap.size, 0, none⟩ 1 1 [.int .i64 t] rfl rfl (nine_new _ _ _) ?c1 ?c2 ?c3 ?c4 ?_)
          case c1 => first | rfl | (intro x hx; simp at hx; subst hx; rfl)
          case c2 => simp only [maxLen]; omega
          case c3 => omega
          case c4 => first | omega | (simp; omega)
          intro v' w4 hown' hgrow _
          have HON : Hid (w4.ownsRow w.heap.size 2 1 v' (j + 1) (nums (F (j + 1)))) := Lib.hid (by rw [HT.out]; simpa [nums] using hown')
          have hne := fun g hg => (HO.out.lt g hg).1
          have HBN := Lib.hid ((HB.out.alloc HB.out.size (.cells #[.int .i64 t] 2)).grown hgrow (by simp; omega) (fun g hg => hne g hg))
          have hs4 : w.heap.size ≤ w4.heap.size := by have := hgrow.size; simp at this; omega
          have hlv : lenV v' = j + 1 := by obtain ⟨A', c', e, -⟩ := own_reads hown'; rw [e]; rfl
          clear hown' hgrow hne
          go_wp2
          go_roundw
          case rel => exact ⟨j + 1, t, v', rfl, rfl, by omega, hlv, ht0, ht1, HTN, HLTN, HON, HBN, hs4⟩
          case measure =>
            have h1 := HTN.out
            have h2 := HTE.out
            simp [intOf]
            rw [hlv]
            show _ < (n' - j) * 1000000000 + _
            have e1 : (n' - j) * 1000000000 = (n' - (j + 1)) * 1000000000 + 1000000000 := by omega
            omega
        · have htl : t < E (F j) := by omega
          have hnf : ¬ (y1 < b' ∧ y2 < p') := fun h => hfree (hfr.1 h)
          have HNX := Lib.hid (fun nx h2 => HGT.out j t nx ht0 htl h2)
          have w2 : IntKind.i64.wrap (t + st) = t + st := IntWalk.i64_in _ (by omega)
          have w3 : IntKind.i64.wrap (t + st + rs) = t + st + rs := IntWalk.i64_in _ (by omega)
          have hns : (y1 < b' ∧ ¬ y2 < p') ∨ ¬ y1 < b' := by
            rcases Nat.lt_or_ge y1 b' with h | h
            · exact .inl ⟨h, fun h2 => hnf ⟨h, h2⟩⟩
            · exact .inr (by omega)
          clear hfr hfree hnf
          rcases hns with ⟨z1, z2⟩ | z1
          · have g2 : (y1 : Int) < (b' : Int) := by omega
            have g3 : ¬ (y2 : Int) < (p' : Int) := by omega
            go_wp2_with fail
            refine (BS.out _).mono ?_
            rintro e w_ ⟨rfl, rfl⟩
            rw [HY1.out]
            go_wp2_with fail
            refine (BS.out _).mono ?_
            rintro e w_ ⟨rfl, rfl⟩
            rw [HY2.out]
            clear z1 z2
            --<1
            go_wp2
            go_loop [15, 16] (fun nv z => ∃ (i : Nat) (nx : Int), i ≤ j ∧ z = .int .i64 i ∧ nv = .int .i64 nx ∧ t < nx ∧ nx ≤ t + st + rs ∧ Hid (∀ u, u < i → (t < (F j).getD u 0 + st → nx ≤ (F j).getD u 0 + st) ∧ (t < (F j).getD u 0 + (st + rs) → nx ≤ (F j).getD u 0 + (st + rs)))) (fun _ z => j - (intOf z).toNat)
            case atStart => exact ⟨0, t + st + rs, Nat.zero_le _, rfl, rfl, by omega, Int.le_refl _, Lib.hid (fun u hu => absurd hu (by omega))⟩
            case round =>
              obtain ⟨i, nx, hi, rfl, rfl, hnx1, hnx2, HV⟩ := hrel
              by_cases hij : i < j
              · have hil : i < (F j).length := by rw [HLN.out]; exact hij
                obtain ⟨ad, hA, hbl, c1⟩ := HLI.out.at_ hil
                have hbx := HBD.out j _ (List.getElem_mem hil)
                have hgx : (F j).getD i 0 = (F j)[i] := by rw [List.getD_eq_getElem?_getD, List.getElem?_eq_getElem hil]; rfl
                obtain ⟨x, hx⟩ : ∃ x, (F j)[i] = x := ⟨_, rfl⟩
                rw [hx] at c1 hbx hgx
                have HGX := Lib.hid hgx
                obtain rfl := hA
                have u1 : IntKind.i64.wrap (x + st) = x + st := IntWalk.i64_in _ (by omega)
                have u2 : IntKind.i64.wrap (x + st + rs) = x + st + rs := IntWalk.i64_in _ (by omega)
                have g5 : (i : Int) < (j : Int) := by omega
                have e2 : IntKind.i64.wrap ((i : Int) + 1) = (i : Int) + 1 := IntWalk.i64_in _ (by omega)
                have hx0 := hbx.1
                clear hx hbl hgx hbx
                by_cases k1 : t < x + st
                · have k2 : t < x + st + rs := by omega
                  by_cases m1 : x + st < nx
                  · have m2 : ¬ (x + st + rs < x + st) := by omega
                    have HVN : Hid (∀ u, u < i + 1 → (t < (F j).getD u 0 + st → (x + st) ≤ (F j).getD u 0 + st) ∧ (t < (F j).getD u 0 + (st + rs) → (x + st) ≤ (F j).getD u 0 + (st + rs))) := Lib.hid (fun u hu => by
                      rcases Nat.lt_or_ge u i with h | h
                      · have := HV.out u h; omega
                      · have : u = i := by omega
                        subst this; rw [HGX.out]; omega)
                    go_wp2
                    go_round
                    case rel => exact ⟨i + 1, (x + st), by omega, by go_num, rfl, by omega, by omega, HVN⟩
                    case measure => simp [intOf]; omega
                  · by_cases m2 : x + st + rs < nx
                    · exfalso; omega
                    · have HVN : Hid (∀ u, u < i + 1 → (t < (F j).getD u 0 + st → nx ≤ (F j).getD u 0 + st) ∧ (t < (F j).getD u 0 + (st + rs) → nx ≤ (F j).getD u 0 + (st + rs))) := Lib.hid (fun u hu => by
                        rcases Nat.lt_or_ge u i with h | h
                        · have := HV.out u h; omega
                        · have : u = i := by omega
                          subst this; rw [HGX.out]; omega)
                      go_wp2
                      go_round
                      case rel => exact ⟨i + 1, nx, by omega, by go_num, rfl, by omega, by omega, HVN⟩
                      case measure => simp [intOf]; omega
                · by_cases k2 : t < x + st + rs
                  · by_cases m2 : x + st + rs < nx
                    · have HVN : Hid (∀ u, u < i + 1 → (t < (F j).getD u 0 + st → (x + st + rs) ≤ (F j).getD u 0 + st) ∧ (t < (F j).getD u 0 + (st + rs) → (x + st + rs) ≤ (F j).getD u 0 + (st + rs))) := Lib.hid (fun u hu => by
                        rcases Nat.lt_or_ge u i with h | h
                        · have := HV.out u h; omega
                        · have : u = i := by omega
                          subst this; rw [HGX.out]; omega)
                      go_wp2
                      go_round
                      case rel => exact ⟨i + 1, (x + st + rs), by omega, by go_num, rfl, by omega, by omega, HVN⟩
                      case measure => simp [intOf]; omega
                    · have HVN : Hid (∀ u, u < i + 1 → (t < (F j).getD u 0 + st → nx ≤ (F j).getD u 0 + st) ∧ (t < (F j).getD u 0 + (st + rs) → nx ≤ (F j).getD u 0 + (st + rs))) := Lib.hid (fun u hu => by
                        rcases Nat.lt_or_ge u i with h | h
                        · have := HV.out u h; omega
                        · have : u = i := by omega
                          subst this; rw [HGX.out]; omega)
                      go_wp2
                      go_round
                      case rel => exact ⟨i + 1, nx, by omega, by go_num, rfl, by omega, by omega, HVN⟩
                      case measure => simp [intOf]; omega
                  · have HVN : Hid (∀ u, u < i + 1 → (t < (F j).getD u 0 + st → nx ≤ (F j).getD u 0 + st) ∧ (t < (F j).getD u 0 + (st + rs) → nx ≤ (F j).getD u 0 + (st + rs))) := Lib.hid (fun u hu => by
                      rcases Nat.lt_or_ge u i with h | h
                      · have := HV.out u h; omega
                      · have : u = i := by omega
                        subst this; rw [HGX.out]; omega)
                    go_wp2
                    go_round
                    case rel => exact ⟨i + 1, nx, by omega, by go_num, rfl, by omega, by omega, HVN⟩
                    case measure => simp [intOf]; omega
              · have hie : i = j := by omega
                have hge := HNX.out nx (fun x hx => by
                  obtain ⟨u, hu, rfl⟩ := List.getElem_of_mem hx
                  have h1 := HV.out u (by rw [HLN.out] at hu; omega)
                  rw [List.getD_eq_getElem?_getD, List.getElem?_eq_getElem hu] at h1
                  exact h1)
                have HTN : Hid (nx ≤ E (F j)) := Lib.hid hge
                have HLTN : Hid (∀ i, i < j → (F j).getD i 0 ≤ nx) := Lib.hid (fun i hi => by have := HLT.out i hi; omega)
                go_wp2
                go_roundw
                case rel => exact ⟨j, nx, _, rfl, rfl, hj, rfl, by omega, by omega, HTN, HLTN, HO, HB, hsz⟩
                case measure => simp [intOf, lenV]; omega
            --1>
          · have g2 : ¬ (y1 : Int) < (b' : Int) := by omega
            go_wp2_with fail
            refine (BS.out _).mono ?_
            rintro e w_ ⟨rfl, rfl⟩
            rw [HY1.out]
            clear z1
            --<2
            go_wp2
            go_loop [15, 16] (fun nv z => ∃ (i : Nat) (nx : Int), i ≤ j ∧ z = .int .i64 i ∧ nv = .int .i64 nx ∧ t < nx ∧ nx ≤ t + st + rs ∧ Hid (∀ u, u < i → (t < (F j).getD u 0 + st → nx ≤ (F j).getD u 0 + st) ∧ (t < (F j).getD u 0 + (st + rs) → nx ≤ (F j).getD u 0 + (st + rs)))) (fun _ z => j - (intOf z).toNat)
            case atStart => exact ⟨0, t + st + rs, Nat.zero_le _, rfl, rfl, by omega, Int.le_refl _, Lib.hid (fun u hu => absurd hu (by omega))⟩
            case round =>
              obtain ⟨i, nx, hi, rfl, rfl, hnx1, hnx2, HV⟩ := hrel
              by_cases hij : i < j
              · have hil : i < (F j).length := by rw [HLN.out]; exact hij
                obtain ⟨ad, hA, hbl, c1⟩ := HLI.out.at_ hil
                have hbx := HBD.out j _ (List.getElem_mem hil)
                have hgx : (F j).getD i 0 = (F j)[i] := by rw [List.getD_eq_getElem?_getD, List.getElem?_eq_getElem hil]; rfl
                obtain ⟨x, hx⟩ : ∃ x, (F j)[i] = x := ⟨_, rfl⟩
                rw [hx] at c1 hbx hgx
                have HGX := Lib.hid hgx
                obtain rfl := hA
                have u1 : IntKind.i64.wrap (x + st) = x + st := IntWalk.i64_in _ (by omega)
                have u2 : IntKind.i64.wrap (x + st + rs) = x + st + rs := IntWalk.i64_in _ (by omega)
                have g5 : (i : Int) < (j : Int) := by omega
                have e2 : IntKind.i64.wrap ((i : Int) + 1) = (i : Int) + 1 := IntWalk.i64_in _ (by omega)
                have hx0 := hbx.1
                clear hx hbl hgx hbx
                by_cases k1 : t < x + st
                · have k2 : t < x + st + rs := by omega
                  by_cases m1 : x + st < nx
                  · have m2 : ¬ (x + st + rs < x + st) := by omega
                    have HVN : Hid (∀ u, u < i + 1 → (t < (F j).getD u 0 + st → (x + st) ≤ (F j).getD u 0 + st) ∧ (t < (F j).getD u 0 + (st + rs) → (x + st) ≤ (F j).getD u 0 + (st + rs))) := Lib.hid (fun u hu => by
                      rcases Nat.lt_or_ge u i with h | h
                      · have := HV.out u h; omega
                      · have : u = i := by omega
                        subst this; rw [HGX.out]; omega)
                    go_wp2
                    go_round
                    case rel => exact ⟨i + 1, (x + st), by omega, by go_num, rfl, by omega, by omega, HVN⟩
                    case measure => simp [intOf]; omega
                  · by_cases m2 : x + st + rs < nx
                    · exfalso; omega
                    · have HVN : Hid (∀ u, u < i + 1 → (t < (F j).getD u 0 + st → nx ≤ (F j).getD u 0 + st) ∧ (t < (F j).getD u 0 + (st + rs) → nx ≤ (F j).getD u 0 + (st + rs))) := Lib.hid (fun u hu => by
                        rcases Nat.lt_or_ge u i with h | h
                        · have := HV.out u h; omega
                        · have : u = i := by omega
                          subst this; rw [HGX.out]; omega)
                      go_wp2
                      go_round
                      case rel => exact ⟨i + 1, nx, by omega, by go_num, rfl, by omega, by omega, HVN⟩
                      case measure => simp [intOf]; omega
                · by_cases k2 : t < x + st + rs
                  · by_cases m2 : x + st + rs < nx
                    · have HVN : Hid (∀ u, u < i + 1 → (t < (F j).getD u 0 + st → (x + st + rs) ≤ (F j).getD u 0 + st) ∧ (t < (F j).getD u 0 + (st + rs) → (x + st + rs) ≤ (F j).getD u 0 + (st + rs))) := Lib.hid (fun u hu => by
                        rcases Nat.lt_or_ge u i with h | h
                        · have := HV.out u h; omega
                        · have : u = i := by omega
                          subst this; rw [HGX.out]; omega)
                      go_wp2
                      go_round
                      case rel => exact ⟨i + 1, (x + st + rs), by omega, by go_num, rfl, by omega, by omega, HVN⟩
                      case measure => simp [intOf]; omega
                    · have HVN : Hid (∀ u, u < i + 1 → (t < (F j).getD u 0 + st → nx ≤ (F j).getD u 0 + st) ∧ (t < (F j).getD u 0 + (st + rs) → nx ≤ (F j).getD u 0 + (st + rs))) := Lib.hid (fun u hu => by
                        rcases Nat.lt_or_ge u i with h | h
                        · have := HV.out u h; omega
                        · have : u = i := by omega
                          subst this; rw [HGX.out]; omega)
                      go_wp2
                      go_round
                      case rel => exact ⟨i + 1, nx, by omega, by go_num, rfl, by omega, by omega, HVN⟩
                      case measure => simp [intOf]; omega
                  · have HVN : Hid (∀ u, u < i + 1 → (t < (F j).getD u 0 + st → nx ≤ (F j).getD u 0 + st) ∧ (t < (F j).getD u 0 + (st + rs) → nx ≤ (F j).getD u 0 + (st + rs))) := Lib.hid (fun u hu => by
                      rcases Nat.lt_or_ge u i with h | h
                      · have := HV.out u h; omega
                      · have : u = i := by omega
                        subst this; rw [HGX.out]; omega)
                    go_wp2
                    go_round
                    case rel => exact ⟨i + 1, nx, by omega, by go_num, rfl, by omega, by omega, HVN⟩
                    case measure => simp [intOf]; omega
              · have hie : i = j := by omega
                have hge := HNX.out nx (fun x hx => by
                  obtain ⟨u, hu, rfl⟩ := List.getElem_of_mem hx
                  have h1 := HV.out u (by rw [HLN.out] at hu; omega)
                  rw [List.getD_eq_getElem?_getD, List.getElem?_eq_getElem hu] at h1
                  exact h1)
                have HTN : Hid (nx ≤ E (F j)) := Lib.hid hge
                have HLTN : Hid (∀ i, i < j → (F j).getD i 0 ≤ nx) := Lib.hid (fun i hi => by have := HLT.out i hi; omega)
                go_wp2
                go_roundw
                case rel => exact ⟨j, nx, _, rfl, rfl, hj, rfl, by omega, by omega, HTN, HLTN, HO, HB, hsz⟩
                case measure => simp [intOf, lenV]; omega
            --2>
      · obtain rfl : j = n' := by omega
        have HLI := Lib.hid hL
        clear hL
        go_wp2
        go_ret2
        rw [HER.out, HV.out]
        exact ⟨Ao, j, co, rfl, HLI.out, hc, hn1, HB.out⟩
  · have h0' : (er != 0) = true := by rw [bne_iff_ne]; exact h0
    have h0'' : (er == 0) = false := beq_eq_false_iff_ne.2 h0
    have HV : Hid (srtV p b st rs n = []) := Lib.hid (by unfold srtV; rw [her, if_neg h0])
    have HER := Lib.hid her
    clear her
    go_enter Try.func27, Try.ntmps27
    go_wp2_with fail
    refine (boiler_any _ _ _ _ _ _).mono ?_
    rintro e w1 ⟨rfl, rfl⟩
    rw [HER.out]
    go_wp2
    go_ret2
    rw [HER.out, HV.out]
    exact ⟨none, 0, 0, rfl, LI.none_, Nat.le_refl _, Nat.zero_le _, Below.refl _ _⟩
end Go.Proofs.Ytomncopeekegoaa
