/-
  The document's Hear.
-/
import Derived.Test.YtjdnpgilinfkgaaHD
import Derived.Test.YtjdnpgilinfkgaaMS
namespace Go.Proofs.Ytjdnpgilinfkgaa
open Go.RowKit

/-- The least number behind u samples, of those that are near t. -/
def fm (f : Nat → Int) (t far : Nat) : Nat → Int
  | 0 => f t
  | u + 1 => if dst u t ≤ far then min (fm f t far u) (f u) else fm f t far u
theorem fm_le {f : Nat → Int} {t far : Nat} : ∀ {m : Nat}, fm f t far m ≤ f t ∧ ∀ u, u < m → dst u t ≤ far → fm f t far m ≤ f u
  | 0 => ⟨Int.le_refl _, fun u h => by omega⟩
  | m + 1 => by
    obtain ⟨h1, h2⟩ := fm_le (f := f) (t := t) (far := far) (m := m)
    have e : fm f t far (m + 1) = if dst m t ≤ far then min (fm f t far m) (f m) else fm f t far m := rfl
    by_cases c : dst m t ≤ far
    · rw [if_pos c] at e
      refine ⟨by omega, fun u hu hd => ?_⟩
      rcases Nat.lt_or_ge u m with h | h
      · have := h2 u h hd; omega
      · rw [show u = m by omega]; omega
    · rw [if_neg c] at e
      refine ⟨by omega, fun u hu hd => ?_⟩
      rcases Nat.lt_or_ge u m with h | h
      · have := h2 u h hd; omega
      · exact absurd (show dst m t ≤ far by rw [show m = u by omega]; exact hd) c
theorem fm_at {f : Nat → Int} {t far : Nat} : ∀ {m : Nat}, fm f t far m = f t ∨ ∃ u, u < m ∧ dst u t ≤ far ∧ fm f t far m = f u
  | 0 => .inl rfl
  | m + 1 => by
    have e : fm f t far (m + 1) = if dst m t ≤ far then min (fm f t far m) (f m) else fm f t far m := rfl
    by_cases c : dst m t ≤ far
    · rw [if_pos c] at e
      rcases Int.le_total (fm f t far m) (f m) with h | h
      · rcases fm_at (f := f) (t := t) (far := far) (m := m) with h1 | ⟨u, h1, h2, h3⟩
        · exact .inl (by omega)
        · exact .inr ⟨u, by omega, h2, by omega⟩
      · exact .inr ⟨m, by omega, c, by omega⟩
    · rw [if_neg c] at e
      rcases fm_at (f := f) (t := t) (far := far) (m := m) with h1 | ⟨u, h1, h2, h3⟩
      · exact .inl (by omega)
      · exact .inr ⟨u, by omega, h2, by omega⟩
theorem fm_mnL {f : Nat → Int} {t far n : Nat} (ht : t < n) (hb : ∀ u, u < n → f u ≤ 9223372036854775807) : fm f t far n = mnL f (nbr t far n) := by
  obtain ⟨h1, h2⟩ := fm_le (f := f) (t := t) (far := far) (m := n)
  obtain ⟨v, hv, e⟩ := mnL_at (f := f) (us := nbr t far n) (List.ne_nil_of_mem (nbr_self ht)) (fun u hu => hb u (nbr_mem.1 hu).1)
  have h3 := h2 v (nbr_mem.1 hv).1 (nbr_mem.1 hv).2
  rcases fm_at (f := f) (t := t) (far := far) (m := n) with h | ⟨u, k1, k2, k3⟩
  · have := mnL_le (f := f) (nbr_self (far := far) ht); omega
  · have := mnL_le (f := f) (nbr_mem.2 ⟨k1, k2⟩); omega
/-- What the document's loop has behind u samples. -/
def hdF (N L : List Smp) (t far u : Nat) : Hrd := ⟨fm (fun v => -innW L v) t far u, -fm (innW N) t far u, fm (outW N) t far u, -fm (fun v => -outW L v) t far u⟩
theorem hdF_all {N L : List Smp} {t far n : Nat} (ht : t < n) (hN : Edg N) (hL : Edg L) (h1 : N.length = n) (h2 : L.length = n) : hdF N L t far n = hdL N L (nbr t far n) := by
  unfold hdF hdL mxL
  rw [fm_mnL ht (fun u hu => by have := hL.1 u (by omega); omega), fm_mnL ht (fun u hu => by have := hN.1 u (by omega); omega), fm_mnL ht (fun u hu => by have := hN.2 u (by omega); omega), fm_mnL ht (fun u hu => by have := hL.2 u (by omega); omega), Int.neg_neg]
set_option maxRecDepth 100000 in
set_option maxHeartbeats 16000000 in
theorem refHear_any (B : Nat) (Af A' A : Option Addr) (nf cf n' c' n c : Nat) (b s : List Int) (l : List Smp) (wow : Int) (w : World) (hL : LI w B Af nf b) (hS : LI w B A' n' s) (h0 : RS w B A n l) (hB : B ≤ w.heap.size) (hf : nf ≤ 9223372036854775807) (hf' : n' ≤ 9223372036854775807) (hl : n ≤ 9223372036854775807) :
    Calls Try.prog 27 #[.agg #[.slice Af nf cf], .agg #[.slice A' n' c'], .slice A n c, .int .i64 wow] w (HdPost w (hrEr b s l wow) (hrRes b s l wow)) := by
  have HN := Lib.hid h0.1
  have H := Lib.hid (h0.more hB)
  have HL := Lib.hid (hL.more hB)
  have HS := Lib.hid (hS.more hB)
  clear h0 hL hS hB
  have C1 := Lib.hid (fun W (hb : Below w.heap.size w W) => refCheckTip_any w.heap.size Af nf cf b W (HL.out.below hb (Nat.le_refl _)) hb.size hf)
  have C2 := Lib.hid (fun W (hb : Below w.heap.size w W) => refBoth_any w.heap.size A' A n' c' n c s l W (HS.out.below hb (Nat.le_refl _)) (H.out.below hb (Nat.le_refl _)) hb.size hf' hl)
  have C4 := Lib.hid (fun W (hb : Below w.heap.size w W) => refBlunter_any w.heap.size Af A' nf cf n' c' b s W (HL.out.below hb (Nat.le_refl _)) (HS.out.below hb (Nat.le_refl _)) hb.size hf hf')
  have hbl : ckBl b s = if blL b s then 0 else 20 := rfl
  have hrd : rdEr s l = orL [ckTip s, ckG l] := rfl
  have he : hrEr b s l wow = orL [ckTip b, ckTip s, ckG l, ckBl b s, ckWo wow] := rfl
  have hwo : ckWo wow = if 0 ≤ wow ∧ wow ≤ 256 then 0 else 3 := rfl
  have hres : hrEr b s l wow ≠ 0 → hrRes b s l wow = [] := fun h => by unfold hrRes; rw [if_neg h]
  have hnil : ∀ W : World, RH W W.heap.size none 0 [] := fun W => ⟨rfl, by simp [hdCells], fun h => absurd h (by omega)⟩
  have HNIL := Lib.hid hnil
  clear hnil
  obtain ⟨e1, h1⟩ : ∃ x, ckTip b = x := ⟨_, rfl⟩
  have H1 := Lib.hid h1
  rw [h1] at C1 he
  clear h1
  by_cases z1 : e1 = 0
  · subst z1
    obtain ⟨e2, h2⟩ : ∃ x, rdEr s l = x := ⟨_, rfl⟩
    have H2 := Lib.hid h2
    rw [h2] at C2 hrd
    clear h2
    by_cases z2 : e2 = 0
    · subst z2
      have hz2 : ckTip s = 0 ∧ ckG l = 0 := by
        have h := orL_z.1 hrd.symm
        exact ⟨h _ (by simp), h _ (by simp)⟩
      have he2 : hrEr b s l wow = orL [ckBl b s, ckWo wow] := by rw [he]; simp [orL, hz2.1, hz2.2]
      obtain ⟨bl, h4⟩ : ∃ x, blL b s = x := ⟨_, rfl⟩
      rw [h4] at C4 hbl
      clear he
      cases bl
      · have HE : Hid (hrEr b s l wow = 20 ∧ hrRes b s l wow = []) := Lib.hid (by
          have h : hrEr b s l wow = 20 := by rw [he2, hbl]; rfl
          exact ⟨h, hres (by rw [h]; decide)⟩)
        clear hbl hrd he2 hwo hres
        go_enter Try.func27, Try.ntmps27
        go_upto_region 1 with fail
        obtain ⟨w2, hW⟩ : ∃ W, (w.alloc (.cells #[.slice Af nf cf] 24)).alloc (.cells #[.slice A' n' c'] 24) = W := ⟨_, rfl⟩
        have hb : Below w.heap.size w w2 := by rw [← hW]; exact ((Below.refl _ _).alloc (Nat.le_refl _) _).alloc (by simp) _
        have K1 : Hid (Blk w2 w.heap.size 24 #[.slice Af nf cf]) := Lib.hid (by rw [← hW]; exact (Blk.new _ _ _).alloc _)
        have K2 : Hid (Blk w2 (w.heap.size + 1) 24 #[.slice A' n' c']) := Lib.hid (by rw [← hW]; exact blk_al (by simp))
        have HB := Lib.hid hb
        have hsz2 := hb.size
        rw [hW]
        clear hW hb
        have t1 := K1.out.one.1
        have t2 := K2.out.one.1
        go_wp2_with fail
        have CALL := C1.out _ HB.out
        refine CALL.mono ?_
        rintro e w3 ⟨rfl, hb⟩
        clear CALL
        have hsz3 := hb.size
        replace K1 := Lib.hid (K1.out.below hb K1.out.lt)
        replace K2 := Lib.hid (K2.out.below hb K2.out.lt)
        replace HB := Lib.hid (HB.out.trans (hb.mono (by omega)))
        clear hb
        have t1 := K1.out.one.1
        have t2 := K2.out.one.1
        go_wp2_with fail
        have CALL := C2.out _ HB.out
        refine CALL.mono ?_
        rintro e w4 ⟨rfl, hb⟩
        clear CALL
        have hsz4 := hb.size
        replace K1 := Lib.hid (K1.out.below hb K1.out.lt)
        replace K2 := Lib.hid (K2.out.below hb K2.out.lt)
        replace HB := Lib.hid (HB.out.trans (hb.mono (by omega)))
        clear hb
        have t1 := K1.out.one.1
        have t2 := K2.out.one.1
        go_wp2_with fail
        have CALL := C4.out _ HB.out
        refine CALL.mono ?_
        rintro e w5 ⟨rfl, hb⟩
        clear CALL
        have hsz5 := hb.size
        replace K1 := Lib.hid (K1.out.below hb K1.out.lt)
        replace K2 := Lib.hid (K2.out.below hb K2.out.lt)
        replace HB := Lib.hid (HB.out.trans (hb.mono (by omega)))
        clear hb
        have t1 := K1.out.one.1
        have t2 := K2.out.one.1
        clear C1 C2 C4
        go_wp2
        go_ret2
        exact ⟨none, 0, 0, by rw [HE.out.1] <;> rfl, by rw [HE.out.2]; exact HNIL.out _, Nat.le_refl _, HB.out⟩
      · have he3 : hrEr b s l wow = ckWo wow := by rw [he2, hbl]; show (if (0 : Int) = 0 then orL [ckWo wow] else 0) = _; rw [if_pos rfl]; unfold orL orL; split <;> omega
        clear he2
        by_cases z5 : 0 ≤ wow
        · have d1 : decide (wow < 0) = false := decide_eq_false (by omega)
          by_cases z6 : wow ≤ 256
          · obtain ⟨far, rfl⟩ : ∃ far : Nat, wow = far := ⟨wow.toNat, by omega⟩
            have hfar : far ≤ 256 := by omega
            have d3 : decide (256 < (far : Int)) = false := decide_eq_false (by omega)
            have hee : hrEr b s l far = 0 := by rw [he3, hwo, if_pos (by omega)]
            have HRES : Hid (hrEr b s l far = 0 ∧ hrRes b s l far = hrL (rdL b l) (rdL s l) far n) := Lib.hid ⟨hee, by unfold hrRes; rw [if_pos hee, Int.toNat_natCast, HN.out]⟩
            have HS1 := Lib.hid (ckTip_ok H1.out)
            have HS2 := Lib.hid (ckTip_ok hz2.1)
            have HE := Lib.hid (ckG_edg hz2.2).2
            have hn4 : n ≤ 4096 := by have := HN.out; have := (ckG_edg hz2.2).1; omega
            have hl4 : l.length ≤ 4096 := (ckG_edg hz2.2).1
            have HR1 : Hid (Edg (rdL b l)) := Lib.hid (rdL_edg HS1.out HE.out)
            have HR2 : Hid (Edg (rdL s l)) := Lib.hid (rdL_edg HS2.out HE.out)
            clear hee he3 hwo hbl hrd hres hz2 z5 z6 H2 h4
            obtain ⟨i0, hi0, hy0, hy1, hy2⟩ := info_parts info_hd
            have HI0 := Lib.hid hi0
            have HZ0 := Lib.hid hy0
            have HZ1 := Lib.hid hy1
            have HZ2 := Lib.hid hy2
            clear hi0 hy0 hy1 hy2
            go_enter Try.func27, Try.ntmps27
            go_upto_region 1 with fail
            obtain ⟨w2, hW⟩ : ∃ W, (w.alloc (.cells #[.slice Af nf cf] 24)).alloc (.cells #[.slice A' n' c'] 24) = W := ⟨_, rfl⟩
            have hb : Below w.heap.size w w2 := by rw [← hW]; exact ((Below.refl _ _).alloc (Nat.le_refl _) _).alloc (by simp) _
            have K1 : Hid (Blk w2 w.heap.size 24 #[.slice Af nf cf]) := Lib.hid (by rw [← hW]; exact (Blk.new _ _ _).alloc _)
            have K2 : Hid (Blk w2 (w.heap.size + 1) 24 #[.slice A' n' c']) := Lib.hid (by rw [← hW]; exact blk_al (by simp))
            have HB := Lib.hid hb
            have hsz2 := hb.size
            rw [hW]
            clear hW hb
            have t1 := K1.out.one.1
            have t2 := K2.out.one.1
            go_wp2_with fail
            have CALL := C1.out _ HB.out
            refine CALL.mono ?_
            rintro e w3 ⟨rfl, hb⟩
            clear CALL
            have hsz3 := hb.size
            replace K1 := Lib.hid (K1.out.below hb K1.out.lt)
            replace K2 := Lib.hid (K2.out.below hb K2.out.lt)
            replace HB := Lib.hid (HB.out.trans (hb.mono (by omega)))
            clear hb
            have t1 := K1.out.one.1
            have t2 := K2.out.one.1
            go_wp2_with fail
            have CALL := C2.out _ HB.out
            refine CALL.mono ?_
            rintro e w4 ⟨rfl, hb⟩
            clear CALL
            have hsz4 := hb.size
            replace K1 := Lib.hid (K1.out.below hb K1.out.lt)
            replace K2 := Lib.hid (K2.out.below hb K2.out.lt)
            replace HB := Lib.hid (HB.out.trans (hb.mono (by omega)))
            clear hb
            have t1 := K1.out.one.1
            have t2 := K2.out.one.1
            go_wp2_with fail
            have CALL := C4.out _ HB.out
            refine CALL.mono ?_
            rintro e w5 ⟨rfl, hb⟩
            clear CALL
            have hsz5 := hb.size
            replace K1 := Lib.hid (K1.out.below hb K1.out.lt)
            replace K2 := Lib.hid (K2.out.below hb K2.out.lt)
            replace HB := Lib.hid (HB.out.trans (hb.mono (by omega)))
            clear hb
            have t1 := K1.out.one.1
            have t2 := K2.out.one.1
            go_wp2_with fail
            refine wp_region_held_drew (S := fun w' => w'.cell? ⟨w.heap.size, 0, none⟩ = some (.slice Af nf cf) ∧ w'.cell? ⟨w.heap.size + 1, 0, none⟩ = some (.slice A' n' c')) (by kernel_rfl) ⟨t1, t2⟩ (fun hHeld => ?_)
            obtain ⟨w6, hwd⟩ : ∃ wd, w5.drew = wd := ⟨_, rfl⟩
            have hb : Below w5.heap.size w5 w6 := by rw [← hwd]; exact (Below.refl _ _).drew
            have hsz6 := hb.size
            replace K1 := Lib.hid (K1.out.below hb K1.out.lt)
            replace K2 := Lib.hid (K2.out.below hb K2.out.lt)
            replace HB := Lib.hid (HB.out.trans (hb.mono (by omega)))
            rw [hwd] at hHeld ⊢
            clear hb hwd
            have t1 := K1.out.one.1
            have t2 := K2.out.one.1
            refine wpAnyH_take (i := 0) (oi := { dst := some 38, op := Go.Op.load 24 (Go.Operand.tmp 4), type := 24, pos := "ref.go:211", after := #[], guard := none }) (v := ?vt6001) rfl (by kernel_rfl) (by kernel_rfl) (by kernel_rfl) (fun _ _ _ h => h) (Or.inl ⟨by rfl, ?ht6001⟩) hHeld ?_
            case ht6001 => intro w hSw; obtain ⟨s1, s2⟩ := hSw; go_simp; try with_reducible rfl
            simp only [Act.put, List.setIfInBounds_toArray, List.set_cons_zero, List.set_cons_succ]
            refine wpAnyH_take (i := 1) (oi := { dst := some 39, op := Go.Op.move (Go.Operand.tmp 2), type := 32, pos := "ref.go:211", after := #[], guard := none }) (v := ?vt6002) rfl (by kernel_rfl) (by kernel_rfl) (by kernel_rfl) (fun _ _ _ h => h) (Or.inl ⟨by rfl, ?ht6002⟩) hHeld ?_
            case ht6002 => intro w hSw; obtain ⟨s1, s2⟩ := hSw; go_simp; try with_reducible rfl
            simp only [Act.put, List.setIfInBounds_toArray, List.set_cons_zero, List.set_cons_succ]
            refine wpAnyH_take (i := 3) (oi := { dst := some 41, op := Go.Op.load 24 (Go.Operand.tmp 5), type := 24, pos := "ref.go:211", after := #[], guard := none }) (v := ?vt6003) rfl (by kernel_rfl) (by kernel_rfl) (by kernel_rfl) (fun _ _ _ h => h) (Or.inl ⟨by rfl, ?ht6003⟩) hHeld ?_
            case ht6003 => intro w hSw; obtain ⟨s1, s2⟩ := hSw; go_simp; try with_reducible rfl
            simp only [Act.put, List.setIfInBounds_toArray, List.set_cons_zero, List.set_cons_succ]
            refine wpAnyH_take (i := 4) (oi := { dst := some 42, op := Go.Op.move (Go.Operand.tmp 2), type := 32, pos := "ref.go:211", after := #[], guard := none }) (v := ?vt6004) rfl (by kernel_rfl) (by kernel_rfl) (by kernel_rfl) (fun _ _ _ h => h) (Or.inl ⟨by rfl, ?ht6004⟩) hHeld ?_
            case ht6004 => intro w hSw; obtain ⟨s1, s2⟩ := hSw; go_simp; try with_reducible rfl
            simp only [Act.put, List.setIfInBounds_toArray, List.set_cons_zero, List.set_cons_succ]
            refine wpAnyH_ready (rs := [2]) (by kernel_rfl) (by simp) ?_
            refine AllReadyH.cons rfl (fun K hK => ?_) AllReadyH.nil
            go_simp
            have CALL := refReadIn_any w.heap.size Af A nf cf n c b l w6 (HL.out.below HB.out (Nat.le_refl _)) (H.out.below HB.out (Nat.le_refl _)) HB.out.size HS1.out HE.out hn4
            refine CALL.mono ?_
            rintro e w7 ⟨AX1, nX1, kX1, rfl, hr, hcX1, hb⟩
            clear CALL
            have hsz7 := hb.size
            replace K1 := Lib.hid (K1.out.below hb K1.out.lt)
            replace K2 := Lib.hid (K2.out.below hb K2.out.lt)
            replace HB := Lib.hid (HB.out.trans (hb.mono (by omega)))
            have hleX1 : nX1 ≤ 4096 := by have h1 := hr.1; have h2 : (rdL b l).length ≤ 4096 := (by rw [rdL_len]; exact hl4); omega
            have HX1 := Lib.hid hr
            clear hr
            clear hb
            have t1 := K1.out.one.1
            have t2 := K2.out.one.1
            refine hK.out _ _ ?_ (fun hH6005 => ?_)
            · exact ⟨t1, t2⟩
            clear hK K
            refine wpAnyH_ready (rs := [5]) (by kernel_rfl) (by simp) ?_
            refine AllReadyH.cons rfl (fun K hK => ?_) AllReadyH.nil
            go_simp
            have CALL := refReadIn_any w.heap.size A' A n' c' n c s l w7 (HS.out.below HB.out (Nat.le_refl _)) (H.out.below HB.out (Nat.le_refl _)) HB.out.size HS2.out HE.out hn4
            refine CALL.mono ?_
            rintro e w8 ⟨AX2, nX2, kX2, rfl, hr, hcX2, hb⟩
            clear CALL
            have hsz8 := hb.size
            replace HX1 := Lib.hid (HX1.out.below hb (by omega))
            replace K1 := Lib.hid (K1.out.below hb K1.out.lt)
            replace K2 := Lib.hid (K2.out.below hb K2.out.lt)
            replace HB := Lib.hid (HB.out.trans (hb.mono (by omega)))
            have hleX2 : nX2 ≤ 4096 := by have h1 := hr.1; have h2 : (rdL s l).length ≤ 4096 := (by rw [rdL_len]; exact hl4); omega
            have HX2 := Lib.hid hr
            clear hr
            clear hb
            have t1 := K1.out.one.1
            have t2 := K2.out.one.1
            refine hK.out _ _ ?_ (fun hH6006 => ?_)
            · exact ⟨t1, t2⟩
            clear hK K
            refine wpAnyH_take (i := 6) (oi := { dst := some 11, op := Go.Op.assign (Go.Operand.tmp 40), type := 32, pos := "ref.go:211", after := #[{ on := 2, ground := Go.Ground.data }, { on := 5, ground := Go.Ground.chain }, { on := 0, ground := Go.Ground.phase }, { on := 1, ground := Go.Ground.phase }, { on := 2, ground := Go.Ground.phase }, { on := 3, ground := Go.Ground.textOnly Go.Departure.lateStores }, { on := 4, ground := Go.Ground.textOnly Go.Departure.lateStores }, { on := 5, ground := Go.Ground.textOnly Go.Departure.lateStoresUnsure }], guard := none }) (v := ?vt6007) rfl (by kernel_rfl) (by kernel_rfl) (by kernel_rfl) (fun _ _ _ h => h) (Or.inl ⟨by rfl, ?ht6007⟩) hH6006 ?_
            case ht6007 => intro w hSw; obtain ⟨s1, s2⟩ := hSw; go_simp; try with_reducible rfl
            simp only [Act.put, List.setIfInBounds_toArray, List.set_cons_zero, List.set_cons_succ]
            refine wpAnyH_take (i := 7) (oi := { dst := some 12, op := Go.Op.assign (Go.Operand.tmp 43), type := 32, pos := "ref.go:211", after := #[{ on := 5, ground := Go.Ground.data }, { on := 6, ground := Go.Ground.chain }, { on := 0, ground := Go.Ground.phase }, { on := 1, ground := Go.Ground.phase }, { on := 2, ground := Go.Ground.phase }, { on := 3, ground := Go.Ground.phase }, { on := 4, ground := Go.Ground.phase }, { on := 5, ground := Go.Ground.phase }, { on := 6, ground := Go.Ground.phase }], guard := none }) (v := ?vt6008) rfl (by kernel_rfl) (by kernel_rfl) (by kernel_rfl) (fun _ _ _ h => h) (Or.inl ⟨by rfl, ?ht6008⟩) hH6006 ?_
            case ht6008 => intro w hSw; obtain ⟨s1, s2⟩ := hSw; go_simp; try with_reducible rfl
            simp only [Act.put, List.setIfInBounds_toArray, List.set_cons_zero, List.set_cons_succ]
            refine wpAnyH_done (by kernel_rfl) ?_ _
            have hnx1 : nX1 = n := by have := HX1.out.1; rw [rdL_len] at this; have := HN.out; omega
            have hnx2 : nX2 = n := by have := HX2.out.1; rw [rdL_len] at this; have := HN.out; omega
            subst nX1
            subst nX2
            replace HX1 := Lib.hid (HX1.out.more (show _ ≤ w8.heap.size by omega))
            obtain ⟨N, hNN⟩ : ∃ N, rdL b l = N := ⟨_, rfl⟩
            obtain ⟨L, hLL⟩ : ∃ L, rdL s l = L := ⟨_, rfl⟩
            rw [hNN] at HX1 HR1
            rw [hLL] at HX2 HR2
            rw [hNN, hLL] at HRES
            have hNl : N.length = n := HX1.out.1.symm
            have hLl : L.length = n := HX2.out.1.symm
            clear hNN hLL t1 t2 K1 K2 HS1 HS2 HE C1 C2 C4 HL HS H d1 d3
            have hown : (w8.ownsRow w8.heap.size 44 4 (.slice none 0 0) 0 []) := World.ownsRow_nil _ _ _ _
            have HO := Lib.hid hown
            clear hown
            have HW0 := Lib.hid (Below.refl w8.heap.size w8)
            go_wp2_with fail
            go_loopw [13, 14] (fun v z wr => ∃ (j : Nat) (sv : Value), j ≤ n ∧ z = .int .i64 j ∧ sv = v ∧ Hid (wr.ownsRow w8.heap.size 44 4 sv j (hdCells ((hrL N L far n).take j))) ∧ Hid (Below w8.heap.size w8 wr)) (fun v z wr => n - (intOf z).toNat)
            case atStart => exact ⟨0, _, Nat.zero_le _, rfl, rfl, HO, HW0⟩
            case round =>
              clear HO HW0
              obtain ⟨j, sv, hj, rfl, rfl, HO, HC⟩ := hrel
              by_cases hlt : j < n
              · have HSN : Hid ((hrL N L far n).take (j + 1) = (hrL N L far n).take j ++ [hdF N L j far n]) := Lib.hid (by rw [hrL_take hlt, hdF_all hlt HR1.out HR2.out hNl hLl])
                have hss := HC.out.size
                obtain ⟨a1, hA1, _, p1, p2⟩ := (HX1.out.below HC.out (Nat.le_refl _)).at_ (k := j) (by omega)
                obtain ⟨a2, hA2, _, q1, q2⟩ := (HX2.out.below HC.out (Nat.le_refl _)).at_ (k := j) (by omega)
                obtain rfl := hA1
                obtain rfl := hA2
                have k1 : N[j]'(by omega) = (-innW N j, outW N j) := by rw [innW_eq (by omega), outW_eq (by omega), Int.neg_neg]
                have k2 : L[j]'(by omega) = (-innW L j, outW L j) := by rw [innW_eq (by omega), outW_eq (by omega), Int.neg_neg]
                rw [k1] at p1 p2
                rw [k2] at q1 q2
                have hj1 : (j : Int) < (n : Int) := by omega
                dsimp only at p1 p2 q1 q2
                clear k1 k2
                have HF0 : Hid (hdF N L j far 0 = ⟨-innW L j, -innW N j, outW N j, outW L j⟩) := Lib.hid (by show (⟨-innW L j, -innW N j, outW N j, - -outW L j⟩ : Hrd) = _; rw [Int.neg_neg])
                obtain ⟨x1, hx1⟩ : ∃ x, -innW N j = x := ⟨_, rfl⟩
                obtain ⟨x2, hx2⟩ : ∃ x, outW N j = x := ⟨_, rfl⟩
                obtain ⟨y1, hy1⟩ : ∃ x, -innW L j = x := ⟨_, rfl⟩
                obtain ⟨y2, hy2⟩ : ∃ x, outW L j = x := ⟨_, rfl⟩
                rw [hx1] at p1 HF0
                rw [hx2] at p2 HF0
                rw [hy1] at q1 HF0
                rw [hy2] at q2 HF0
                clear hx1 hx2 hy1 hy2
                go_upto_region 16 with fail
                have HW := Lib.hid (Below.refl wr.heap.size wr)
                refine wp_region_held_drew (S := fun w' => Below wr.heap.size wr w') (by kernel_rfl) (by first | exact HW.out | exact HW.out.drew | exact ((((HW.out.setCell (p := ⟨w41.heap.size, 0, none⟩) hszb _).setCell (p := ⟨w41.heap.size, 1, none⟩) hszb _).setCell (p := ⟨w41.heap.size, 2, none⟩) hszb _).setCell (p := ⟨w41.heap.size, 3, none⟩) hszb _)) (fun hHeld => ?_)
                obtain ⟨w41, hwd⟩ : ∃ wd, wr.drew = wd := ⟨_, rfl⟩
                have hb : Below wr.heap.size wr w41 := by rw [← hwd]; exact (Below.refl _ _).drew
                have hsz41 := hb.size
                replace HW := Lib.hid (HW.out.trans (hb.mono (by omega)))
                rw [hwd] at hHeld ⊢
                clear hb hwd
                refine wpAnyH_take (i := 0) (oi := { dst := some 50, op := Go.Op.move (Go.Operand.tmp 12), type := 32, pos := "ref.go:214", after := #[], guard := none }) (v := ?vt41001) rfl (by kernel_rfl) (by kernel_rfl) (by kernel_rfl) (fun _ _ _ h => h) (Or.inl ⟨by rfl, ?ht41001⟩) hHeld ?_
                case ht41001 => intro w hSw; have s1 := cell_bl hSw p1; have s2 := cell_bl hSw p2; have s3 := cell_bl hSw q1; have s4 := cell_bl hSw q2; go_simp; try with_reducible rfl
                simp only [Act.put, List.setIfInBounds_toArray, List.set_cons_zero, List.set_cons_succ]
                refine wpAnyH_take (i := 1) (oi := { dst := some 51, op := Go.Op.move (Go.Operand.tmp 14), type := 3, pos := "ref.go:214", after := #[], guard := none }) (v := ?vt41002) rfl (by kernel_rfl) (by kernel_rfl) (by kernel_rfl) (fun _ _ _ h => h) (Or.inl ⟨by rfl, ?ht41002⟩) hHeld ?_
                case ht41002 => intro w hSw; have s1 := cell_bl hSw p1; have s2 := cell_bl hSw p2; have s3 := cell_bl hSw q1; have s4 := cell_bl hSw q2; go_simp; try with_reducible rfl
                simp only [Act.put, List.setIfInBounds_toArray, List.set_cons_zero, List.set_cons_succ]
                refine wpAnyH_take (i := 2) (oi := { dst := some 52, op := Go.Op.indexAddr 32 (Go.Operand.tmp 50) (Go.Operand.tmp 51), type := 0, pos := "ref.go:214", after := #[{ on := 0, ground := Go.Ground.data }, { on := 1, ground := Go.Ground.data }], guard := none }) (v := ?vt41003) rfl (by kernel_rfl) (by kernel_rfl) (by kernel_rfl) (fun _ _ _ h => h) (Or.inl ⟨by rfl, ?ht41003⟩) hHeld ?_
                case ht41003 => intro w hSw; have s1 := cell_bl hSw p1; have s2 := cell_bl hSw p2; have s3 := cell_bl hSw q1; have s4 := cell_bl hSw q2; go_simp; try with_reducible rfl
                simp only [Act.put, List.setIfInBounds_toArray, List.set_cons_zero, List.set_cons_succ]
                refine wpAnyH_take (i := 3) (oi := { dst := some 53, op := Go.Op.fieldAddr 69 (Go.Operand.tmp 52) 0, type := 0, pos := "ref.go:214", after := #[{ on := 2, ground := Go.Ground.data }], guard := none }) (v := ?vt41004) rfl (by kernel_rfl) (by kernel_rfl) (by kernel_rfl) (fun _ _ _ h => h) (Or.inl ⟨by rfl, ?ht41004⟩) hHeld ?_
                case ht41004 => intro w hSw; have s1 := cell_bl hSw p1; have s2 := cell_bl hSw p2; have s3 := cell_bl hSw q1; have s4 := cell_bl hSw q2; go_simp; try with_reducible rfl
                simp only [Act.put, List.setIfInBounds_toArray, List.set_cons_zero, List.set_cons_succ]
                refine wpAnyH_take (i := 4) (oi := { dst := some 54, op := Go.Op.load 2 (Go.Operand.tmp 53), type := 2, pos := "ref.go:214", after := #[{ on := 3, ground := Go.Ground.data }], guard := none }) (v := ?vt41005) rfl (by kernel_rfl) (by kernel_rfl) (by kernel_rfl) (fun _ _ _ h => h) (Or.inl ⟨by rfl, ?ht41005⟩) hHeld ?_
                case ht41005 => intro w hSw; have s1 := cell_bl hSw p1; have s2 := cell_bl hSw p2; have s3 := cell_bl hSw q1; have s4 := cell_bl hSw q2; go_simp; try with_reducible rfl
                simp only [Act.put, List.setIfInBounds_toArray, List.set_cons_zero, List.set_cons_succ]
                refine wpAnyH_take (i := 5) (oi := { dst := some 55, op := Go.Op.move (Go.Operand.tmp 11), type := 32, pos := "ref.go:214", after := #[], guard := none }) (v := ?vt41006) rfl (by kernel_rfl) (by kernel_rfl) (by kernel_rfl) (fun _ _ _ h => h) (Or.inl ⟨by rfl, ?ht41006⟩) hHeld ?_
                case ht41006 => intro w hSw; have s1 := cell_bl hSw p1; have s2 := cell_bl hSw p2; have s3 := cell_bl hSw q1; have s4 := cell_bl hSw q2; go_simp; try with_reducible rfl
                simp only [Act.put, List.setIfInBounds_toArray, List.set_cons_zero, List.set_cons_succ]
                refine wpAnyH_take (i := 6) (oi := { dst := some 56, op := Go.Op.move (Go.Operand.tmp 14), type := 3, pos := "ref.go:214", after := #[], guard := none }) (v := ?vt41007) rfl (by kernel_rfl) (by kernel_rfl) (by kernel_rfl) (fun _ _ _ h => h) (Or.inl ⟨by rfl, ?ht41007⟩) hHeld ?_
                case ht41007 => intro w hSw; have s1 := cell_bl hSw p1; have s2 := cell_bl hSw p2; have s3 := cell_bl hSw q1; have s4 := cell_bl hSw q2; go_simp; try with_reducible rfl
                simp only [Act.put, List.setIfInBounds_toArray, List.set_cons_zero, List.set_cons_succ]
                refine wpAnyH_take (i := 7) (oi := { dst := some 57, op := Go.Op.indexAddr 32 (Go.Operand.tmp 55) (Go.Operand.tmp 56), type := 0, pos := "ref.go:214", after := #[{ on := 5, ground := Go.Ground.data }, { on := 6, ground := Go.Ground.data }], guard := none }) (v := ?vt41008) rfl (by kernel_rfl) (by kernel_rfl) (by kernel_rfl) (fun _ _ _ h => h) (Or.inl ⟨by rfl, ?ht41008⟩) hHeld ?_
                case ht41008 => intro w hSw; have s1 := cell_bl hSw p1; have s2 := cell_bl hSw p2; have s3 := cell_bl hSw q1; have s4 := cell_bl hSw q2; go_simp; try with_reducible rfl
                simp only [Act.put, List.setIfInBounds_toArray, List.set_cons_zero, List.set_cons_succ]
                refine wpAnyH_take (i := 8) (oi := { dst := some 58, op := Go.Op.fieldAddr 69 (Go.Operand.tmp 57) 0, type := 0, pos := "ref.go:214", after := #[{ on := 7, ground := Go.Ground.data }], guard := none }) (v := ?vt41009) rfl (by kernel_rfl) (by kernel_rfl) (by kernel_rfl) (fun _ _ _ h => h) (Or.inl ⟨by rfl, ?ht41009⟩) hHeld ?_
                case ht41009 => intro w hSw; have s1 := cell_bl hSw p1; have s2 := cell_bl hSw p2; have s3 := cell_bl hSw q1; have s4 := cell_bl hSw q2; go_simp; try with_reducible rfl
                simp only [Act.put, List.setIfInBounds_toArray, List.set_cons_zero, List.set_cons_succ]
                refine wpAnyH_take (i := 9) (oi := { dst := some 59, op := Go.Op.load 2 (Go.Operand.tmp 58), type := 2, pos := "ref.go:214", after := #[{ on := 8, ground := Go.Ground.data }], guard := none }) (v := ?vt41010) rfl (by kernel_rfl) (by kernel_rfl) (by kernel_rfl) (fun _ _ _ h => h) (Or.inl ⟨by rfl, ?ht41010⟩) hHeld ?_
                case ht41010 => intro w hSw; have s1 := cell_bl hSw p1; have s2 := cell_bl hSw p2; have s3 := cell_bl hSw q1; have s4 := cell_bl hSw q2; go_simp; try with_reducible rfl
                simp only [Act.put, List.setIfInBounds_toArray, List.set_cons_zero, List.set_cons_succ]
                refine wpAnyH_take (i := 10) (oi := { dst := some 60, op := Go.Op.build 42 #[(0, Go.Operand.tmp 54), (1, Go.Operand.tmp 59)], type := 42, pos := "ref.go:214", after := #[{ on := 4, ground := Go.Ground.data }, { on := 9, ground := Go.Ground.data }], guard := none }) (v := ?vt41011) rfl (by kernel_rfl) (by kernel_rfl) (by kernel_rfl) (fun _ _ _ h => h) (Or.inl ⟨by rfl, ?ht41011⟩) hHeld ?_
                case ht41011 => intro w hSw; have s1 := cell_bl hSw p1; have s2 := cell_bl hSw p2; have s3 := cell_bl hSw q1; have s4 := cell_bl hSw q2; go_simp; try with_reducible rfl
                simp only [Act.put, List.setIfInBounds_toArray, List.set_cons_zero, List.set_cons_succ]
                refine wpAnyH_take (i := 11) (oi := { dst := some 61, op := Go.Op.move (Go.Operand.tmp 11), type := 32, pos := "ref.go:214", after := #[], guard := none }) (v := ?vt41012) rfl (by kernel_rfl) (by kernel_rfl) (by kernel_rfl) (fun _ _ _ h => h) (Or.inl ⟨by rfl, ?ht41012⟩) hHeld ?_
                case ht41012 => intro w hSw; have s1 := cell_bl hSw p1; have s2 := cell_bl hSw p2; have s3 := cell_bl hSw q1; have s4 := cell_bl hSw q2; go_simp; try with_reducible rfl
                simp only [Act.put, List.setIfInBounds_toArray, List.set_cons_zero, List.set_cons_succ]
                refine wpAnyH_take (i := 12) (oi := { dst := some 62, op := Go.Op.move (Go.Operand.tmp 14), type := 3, pos := "ref.go:214", after := #[], guard := none }) (v := ?vt41013) rfl (by kernel_rfl) (by kernel_rfl) (by kernel_rfl) (fun _ _ _ h => h) (Or.inl ⟨by rfl, ?ht41013⟩) hHeld ?_
                case ht41013 => intro w hSw; have s1 := cell_bl hSw p1; have s2 := cell_bl hSw p2; have s3 := cell_bl hSw q1; have s4 := cell_bl hSw q2; go_simp; try with_reducible rfl
                simp only [Act.put, List.setIfInBounds_toArray, List.set_cons_zero, List.set_cons_succ]
                refine wpAnyH_take (i := 13) (oi := { dst := some 63, op := Go.Op.indexAddr 32 (Go.Operand.tmp 61) (Go.Operand.tmp 62), type := 0, pos := "ref.go:214", after := #[{ on := 11, ground := Go.Ground.data }, { on := 12, ground := Go.Ground.data }], guard := none }) (v := ?vt41014) rfl (by kernel_rfl) (by kernel_rfl) (by kernel_rfl) (fun _ _ _ h => h) (Or.inl ⟨by rfl, ?ht41014⟩) hHeld ?_
                case ht41014 => intro w hSw; have s1 := cell_bl hSw p1; have s2 := cell_bl hSw p2; have s3 := cell_bl hSw q1; have s4 := cell_bl hSw q2; go_simp; try with_reducible rfl
                simp only [Act.put, List.setIfInBounds_toArray, List.set_cons_zero, List.set_cons_succ]
                refine wpAnyH_take (i := 14) (oi := { dst := some 64, op := Go.Op.fieldAddr 69 (Go.Operand.tmp 63) 1, type := 0, pos := "ref.go:214", after := #[{ on := 13, ground := Go.Ground.data }], guard := none }) (v := ?vt41015) rfl (by kernel_rfl) (by kernel_rfl) (by kernel_rfl) (fun _ _ _ h => h) (Or.inl ⟨by rfl, ?ht41015⟩) hHeld ?_
                case ht41015 => intro w hSw; have s1 := cell_bl hSw p1; have s2 := cell_bl hSw p2; have s3 := cell_bl hSw q1; have s4 := cell_bl hSw q2; go_simp; try with_reducible rfl
                simp only [Act.put, List.setIfInBounds_toArray, List.set_cons_zero, List.set_cons_succ]
                refine wpAnyH_take (i := 15) (oi := { dst := some 65, op := Go.Op.load 2 (Go.Operand.tmp 64), type := 2, pos := "ref.go:214", after := #[{ on := 14, ground := Go.Ground.data }], guard := none }) (v := ?vt41016) rfl (by kernel_rfl) (by kernel_rfl) (by kernel_rfl) (fun _ _ _ h => h) (Or.inl ⟨by rfl, ?ht41016⟩) hHeld ?_
                case ht41016 => intro w hSw; have s1 := cell_bl hSw p1; have s2 := cell_bl hSw p2; have s3 := cell_bl hSw q1; have s4 := cell_bl hSw q2; go_simp; try with_reducible rfl
                simp only [Act.put, List.setIfInBounds_toArray, List.set_cons_zero, List.set_cons_succ]
                refine wpAnyH_take (i := 16) (oi := { dst := some 66, op := Go.Op.move (Go.Operand.tmp 12), type := 32, pos := "ref.go:214", after := #[], guard := none }) (v := ?vt41017) rfl (by kernel_rfl) (by kernel_rfl) (by kernel_rfl) (fun _ _ _ h => h) (Or.inl ⟨by rfl, ?ht41017⟩) hHeld ?_
                case ht41017 => intro w hSw; have s1 := cell_bl hSw p1; have s2 := cell_bl hSw p2; have s3 := cell_bl hSw q1; have s4 := cell_bl hSw q2; go_simp; try with_reducible rfl
                simp only [Act.put, List.setIfInBounds_toArray, List.set_cons_zero, List.set_cons_succ]
                refine wpAnyH_take (i := 17) (oi := { dst := some 67, op := Go.Op.move (Go.Operand.tmp 14), type := 3, pos := "ref.go:214", after := #[], guard := none }) (v := ?vt41018) rfl (by kernel_rfl) (by kernel_rfl) (by kernel_rfl) (fun _ _ _ h => h) (Or.inl ⟨by rfl, ?ht41018⟩) hHeld ?_
                case ht41018 => intro w hSw; have s1 := cell_bl hSw p1; have s2 := cell_bl hSw p2; have s3 := cell_bl hSw q1; have s4 := cell_bl hSw q2; go_simp; try with_reducible rfl
                simp only [Act.put, List.setIfInBounds_toArray, List.set_cons_zero, List.set_cons_succ]
                refine wpAnyH_take (i := 18) (oi := { dst := some 68, op := Go.Op.indexAddr 32 (Go.Operand.tmp 66) (Go.Operand.tmp 67), type := 0, pos := "ref.go:214", after := #[{ on := 16, ground := Go.Ground.data }, { on := 17, ground := Go.Ground.data }], guard := none }) (v := ?vt41019) rfl (by kernel_rfl) (by kernel_rfl) (by kernel_rfl) (fun _ _ _ h => h) (Or.inl ⟨by rfl, ?ht41019⟩) hHeld ?_
                case ht41019 => intro w hSw; have s1 := cell_bl hSw p1; have s2 := cell_bl hSw p2; have s3 := cell_bl hSw q1; have s4 := cell_bl hSw q2; go_simp; try with_reducible rfl
                simp only [Act.put, List.setIfInBounds_toArray, List.set_cons_zero, List.set_cons_succ]
                refine wpAnyH_take (i := 19) (oi := { dst := some 69, op := Go.Op.fieldAddr 69 (Go.Operand.tmp 68) 1, type := 0, pos := "ref.go:214", after := #[{ on := 18, ground := Go.Ground.data }], guard := none }) (v := ?vt41020) rfl (by kernel_rfl) (by kernel_rfl) (by kernel_rfl) (fun _ _ _ h => h) (Or.inl ⟨by rfl, ?ht41020⟩) hHeld ?_
                case ht41020 => intro w hSw; have s1 := cell_bl hSw p1; have s2 := cell_bl hSw p2; have s3 := cell_bl hSw q1; have s4 := cell_bl hSw q2; go_simp; try with_reducible rfl
                simp only [Act.put, List.setIfInBounds_toArray, List.set_cons_zero, List.set_cons_succ]
                refine wpAnyH_take (i := 20) (oi := { dst := some 70, op := Go.Op.load 2 (Go.Operand.tmp 69), type := 2, pos := "ref.go:214", after := #[{ on := 19, ground := Go.Ground.data }], guard := none }) (v := ?vt41021) rfl (by kernel_rfl) (by kernel_rfl) (by kernel_rfl) (fun _ _ _ h => h) (Or.inl ⟨by rfl, ?ht41021⟩) hHeld ?_
                case ht41021 => intro w hSw; have s1 := cell_bl hSw p1; have s2 := cell_bl hSw p2; have s3 := cell_bl hSw q1; have s4 := cell_bl hSw q2; go_simp; try with_reducible rfl
                simp only [Act.put, List.setIfInBounds_toArray, List.set_cons_zero, List.set_cons_succ]
                refine wpAnyH_take (i := 21) (oi := { dst := some 71, op := Go.Op.build 42 #[(0, Go.Operand.tmp 65), (1, Go.Operand.tmp 70)], type := 42, pos := "ref.go:214", after := #[{ on := 15, ground := Go.Ground.data }, { on := 20, ground := Go.Ground.data }], guard := none }) (v := ?vt41022) rfl (by kernel_rfl) (by kernel_rfl) (by kernel_rfl) (fun _ _ _ h => h) (Or.inl ⟨by rfl, ?ht41022⟩) hHeld ?_
                case ht41022 => intro w hSw; have s1 := cell_bl hSw p1; have s2 := cell_bl hSw p2; have s3 := cell_bl hSw q1; have s4 := cell_bl hSw q2; go_simp; try with_reducible rfl
                simp only [Act.put, List.setIfInBounds_toArray, List.set_cons_zero, List.set_cons_succ]
                refine wpAnyH_take (i := 22) (oi := { dst := some 72, op := Go.Op.build 44 #[(0, Go.Operand.tmp 60), (1, Go.Operand.tmp 71)], type := 44, pos := "ref.go:214", after := #[{ on := 10, ground := Go.Ground.data }, { on := 21, ground := Go.Ground.data }], guard := none }) (v := ?vt41023) rfl (by kernel_rfl) (by kernel_rfl) (by kernel_rfl) (fun _ _ _ h => h) (Or.inl ⟨by rfl, ?ht41023⟩) hHeld ?_
                case ht41023 => intro w hSw; have s1 := cell_bl hSw p1; have s2 := cell_bl hSw p2; have s3 := cell_bl hSw q1; have s4 := cell_bl hSw q2; go_simp; try with_reducible rfl
                simp only [Act.put, List.setIfInBounds_toArray, List.set_cons_zero, List.set_cons_succ]
                refine wpAnyH_ready (rs := [23]) (by kernel_rfl) (by simp) ?_
                refine AllReadyH.cons rfl (fun K hK => ?_) AllReadyH.nil
                go_simp
                obtain ⟨w42, hW⟩ : ∃ W, w41.alloc (.cells #[.int .i64 0, .int .i64 0, .int .i64 0, .int .i64 0] 44) = W := ⟨_, rfl⟩
                have hb : Below w41.heap.size w41 w42 := by rw [← hW]; exact (Below.refl _ _).alloc (Nat.le_refl _) _
                have hsz42 := hb.size
                replace HW := Lib.hid (HW.out.trans (hb.mono (by omega)))
                have KH : Hid (Blk w42 w41.heap.size 44 #[.int .i64 0, .int .i64 0, .int .i64 0, .int .i64 0]) := Lib.hid (by rw [← hW]; exact Blk.new _ _ _)
                try rw [hW]
                clear hW hb
                obtain ⟨z0, z1, z2, z3, z4, z5, z6, z7⟩ := KH.out.four
                have hszb : wr.heap.size ≤ w41.heap.size := by omega
                refine hK.out _ _ ?_ (fun hH41024 => ?_)
                · exact (by first | exact HW.out | exact HW.out.drew | exact ((((HW.out.setCell (p := ⟨w41.heap.size, 0, none⟩) hszb _).setCell (p := ⟨w41.heap.size, 1, none⟩) hszb _).setCell (p := ⟨w41.heap.size, 2, none⟩) hszb _).setCell (p := ⟨w41.heap.size, 3, none⟩) hszb _))
                clear hK K
                refine wpAnyH_ready (rs := [24]) (by kernel_rfl) (by simp) ?_
                refine AllReadyH.cons rfl (fun K hK => ?_) AllReadyH.nil
                go_simp
                skip
                refine hK.out _ _ ?_ (fun hH41025 => ?_)
                · exact (by first | exact HW.out | exact HW.out.drew | exact ((((HW.out.setCell (p := ⟨w41.heap.size, 0, none⟩) hszb _).setCell (p := ⟨w41.heap.size, 1, none⟩) hszb _).setCell (p := ⟨w41.heap.size, 2, none⟩) hszb _).setCell (p := ⟨w41.heap.size, 3, none⟩) hszb _))
                clear hK K
                refine wpAnyH_done (by kernel_rfl) ?_ _
                obtain ⟨b0, hb0⟩ : ∃ b, w41.heap.size = b := ⟨_, rfl⟩
                obtain ⟨W4, hW4⟩ : ∃ W4, (((w42.setCell ⟨w41.heap.size, 0, none⟩ (.int .i64 y1)).setCell ⟨w41.heap.size, 1, none⟩ (.int .i64 x1)).setCell ⟨w41.heap.size, 2, none⟩ (.int .i64 x2)).setCell ⟨w41.heap.size, 3, none⟩ (.int .i64 y2) = W4 := ⟨_, rfl⟩
                have hb4 : Below wr.heap.size wr W4 := by rw [← hW4]; exact ((((HW.out.setCell (p := ⟨w41.heap.size, 0, none⟩) hszb _).setCell (p := ⟨w41.heap.size, 1, none⟩) hszb _).setCell (p := ⟨w41.heap.size, 2, none⟩) hszb _).setCell (p := ⟨w41.heap.size, 3, none⟩) hszb _)
                have K4 : Hid (Blk W4 b0 44 #[.int .i64 (hdF N L j far 0).a, .int .i64 (hdF N L j far 0).b, .int .i64 (hdF N L j far 0).c, .int .i64 (hdF N L j far 0).d]) := Lib.hid (by rw [← hb0, ← hW4, HF0.out]; exact (((KH.out.set_ 0 _).set_ 1 _).set_ 2 _).set_ 3 _)
                have HLT : Hid (∀ g, sv.ownBlock = some g → g < wr.heap.size) := Lib.hid (fun g hg => (HO.out.lt g hg).2)
                replace HO := Lib.hid (own_below HO.out hb4)
                replace HC := Lib.hid (HC.out.trans (hb4.mono hss))
                rw [hW4]
                rw [hb0] at hszb ⊢
                clear hW4 hb4 z0 z1 z2 z3 z4 z5 z6 z7 hH41024 hH41025 hHeld HW KH p1 p2 q1 q2 HF0 hb0
                go_wp2_with fail
                go_loopw [16] (fun z wi => ∃ u : Nat, u ≤ n ∧ z = .int .i64 u ∧ Hid (Blk wi b0 44 #[.int .i64 (hdF N L j far u).a, .int .i64 (hdF N L j far u).b, .int .i64 (hdF N L j far u).c, .int .i64 (hdF N L j far u).d]) ∧ Hid (wi.ownsRow w8.heap.size 44 4 sv j (hdCells ((hrL N L far n).take j))) ∧ Hid (Below w8.heap.size w8 wi)) (fun z _ => n - (intOf z).toNat)
                case atStart => exact ⟨0, Nat.zero_le _, rfl, K4, HO, HC⟩
                case round =>
                  clear K4 HO HC
                  obtain ⟨u, hu, rfl, K, HO, HC⟩ := hrel
                  by_cases hul : u < n
                  · have huj : (u : Int) < (n : Int) := by omega
                    have e1 : IntKind.i64.wrap ((u : Int) - j) = (u : Int) - j := IntWalk.i64_in _ (by omega)
                    have e2 : IntKind.i64.wrap ((j : Int) - u) = (j : Int) - u := IntWalk.i64_in _ (by omega)
                    have e4 : (if (u : Int) - j < (j : Int) - u then (j : Int) - u else (u : Int) - j) = ((dst u j : Nat) : Int) := by unfold dst; split <;> omega
                    have gA : (hdF N L j far (u + 1)).a = if dst u j ≤ far then min (hdF N L j far u).a (-innW L u) else (hdF N L j far u).a := rfl
                    have gB : (hdF N L j far (u + 1)).b = if dst u j ≤ far then max (hdF N L j far u).b (-innW N u) else (hdF N L j far u).b := by
                      show -(if dst u j ≤ far then min (fm (innW N) j far u) (innW N u) else fm (innW N) j far u) = if dst u j ≤ far then max (-fm (innW N) j far u) (-innW N u) else -fm (innW N) j far u
                      split <;> omega
                    have gC : (hdF N L j far (u + 1)).c = if dst u j ≤ far then min (hdF N L j far u).c (outW N u) else (hdF N L j far u).c := rfl
                    have gD : (hdF N L j far (u + 1)).d = if dst u j ≤ far then max (hdF N L j far u).d (outW L u) else (hdF N L j far u).d := by
                      show -(if dst u j ≤ far then min (fm (fun v => -outW L v) j far u) (-outW L u) else fm (fun v => -outW L v) j far u) = if dst u j ≤ far then max (-fm (fun v => -outW L v) j far u) (outW L u) else -fm (fun v => -outW L v) j far u
                      split <;> omega
                    obtain ⟨F1, hF1⟩ : ∃ x, hdF N L j far (u + 1) = x := ⟨_, rfl⟩
                    have HF1 := Lib.hid hF1
                    rw [hF1] at gA gB gC gD
                    obtain ⟨F0, hF0⟩ : ∃ x, hdF N L j far u = x := ⟨_, rfl⟩
                    rw [hF0] at gA gB gC gD K
                    obtain ⟨fa, fb, fc, fd⟩ := F0
                    obtain ⟨ga, gb, gc, gd⟩ := F1
                    dsimp only at gA gB gC gD K
                    clear hF1 hF0
                    obtain ⟨d, hdd⟩ : ∃ d, dst u j = d := ⟨_, rfl⟩
                    rw [hdd] at e4 gA gB gC gD
                    clear hdd
                    by_cases hd : d ≤ far
                    · have d1 : (d : Int) ≤ (far : Int) := by omega
                      rw [if_pos hd] at gA gB gC gD
                      obtain ⟨a1', hA1, ha1, p1, p2⟩ := (HX1.out.below HC.out (Nat.le_refl _)).at_ (k := u) (by omega)
                      obtain ⟨a2', hA2, ha2, q1, q2⟩ := (HX2.out.below HC.out (Nat.le_refl _)).at_ (k := u) (by omega)
                      cases hA1
                      cases hA2
                      have k1 : N[u]'(by omega) = (-innW N u, outW N u) := by rw [innW_eq (by omega), outW_eq (by omega), Int.neg_neg]
                      have k2 : L[u]'(by omega) = (-innW L u, outW L u) := by rw [innW_eq (by omega), outW_eq (by omega), Int.neg_neg]
                      rw [k1] at p1 p2
                      rw [k2] at q1 q2
                      dsimp only at p1 p2 q1 q2
                      clear k1 k2
                      obtain ⟨x1, hx1⟩ : ∃ x, -innW N u = x := ⟨_, rfl⟩
                      obtain ⟨x2, hx2⟩ : ∃ x, outW N u = x := ⟨_, rfl⟩
                      obtain ⟨y1, hy1⟩ : ∃ x, -innW L u = x := ⟨_, rfl⟩
                      obtain ⟨y2, hy2⟩ : ∃ x, outW L u = x := ⟨_, rfl⟩
                      rw [hx1] at p1 gB
                      rw [hx2] at p2 gC
                      rw [hy1] at q1 gA
                      rw [hy2] at q2 gD
                      clear hx1 hx2 hy1 hy2
                      have m1 : (if y1 < fa then y1 else fa) = ga := by rw [gA]; split <;> omega
                      have m2 : (if fb < x1 then x1 else fb) = gb := by rw [gB]; split <;> omega
                      have m3 : (if x2 < fc then x2 else fc) = gc := by rw [gC]; split <;> omega
                      have m4 : (if fd < y2 then y2 else fd) = gd := by rw [gD]; split <;> omega
                      clear gA gB gC gD hd
                      have HP2 := Lib.hid p2
                      have HQ2 := Lib.hid q2
                      obtain ⟨z0, z1, z2, z3, z4, z5, z6, z7⟩ := K.out.four
                      go_wp2_with fail
                      go_still_tail 20, (by kernel_rfl)
                      repeat still_step
                      try refine wpStill_nil ?_
                      change wpList _ _ _ _ _ wr.drew
                      go_wp2_with fail
                      obtain ⟨W5, hW5⟩ : ∃ W5, ((wr.setCell ⟨b0, 0, none⟩ (.int .i64 ga)).setCell ⟨b0, 1, none⟩ (.int .i64 gb)).drew = W5 := ⟨_, rfl⟩
                      have k5 : Blk W5 b0 44 #[.int .i64 ga, .int .i64 gb, .int .i64 fc, .int .i64 fd] := by rw [← hW5]; exact ((K.out.set_ 0 _).set_ 1 _).drew
                      have hg5 : wr.grownBy W5 (some b0) := by rw [← hW5]; exact grown_drew (grown_setCell (grown_setCell (World.grownBy.refl _ _) 0 _) 1 _)
                      have r2 := hg5.cell HP2.out (fun e => by have h := Option.some.inj e; have h2 : (a1.add (u * 2)).block = b0 := h; rw [block_of_add] at h2; omega)
                      have r4 := hg5.cell HQ2.out (fun e => by have h := Option.some.inj e; have h2 : (a2.add (u * 2)).block = b0 := h; rw [block_of_add] at h2; omega)
                      have HO5 := Lib.hid (HO.out.kept hg5 (by
                        cases h : sv.ownBlock with
                        | none => exact .inl rfl
                        | some g => exact .inr (fun e => by have := Option.some.inj e; have := HLT.out g h; omega)))
                      have HC5 := Lib.hid (HC.out.grown hg5 HC.out.size (fun q e => by cases e; omega))
                      have K5 := Lib.hid k5
                      obtain ⟨y0, y1', y2', y3, y4, y5, y6, y7⟩ := k5.four
                      rw [hW5]
                      clear hW5 hg5 k5 HO HC K z0 z1 z2 z3 z4 z5 z6 z7 p1 p2 q1 q2 HP2 HQ2
                      go_still_tail 20, (by kernel_rfl)
                      repeat still_step
                      try refine wpStill_nil ?_
                      change wpList _ _ _ _ _ W5.drew
                      go_upto_region 19 with fail
                      obtain ⟨W6, hW6⟩ : ∃ W6, ((W5.setCell ⟨b0, 2, none⟩ (.int .i64 gc)).setCell ⟨b0, 3, none⟩ (.int .i64 gd)).drew = W6 := ⟨_, rfl⟩
                      have K6 : Hid (Blk W6 b0 44 #[.int .i64 (hdF N L j far (u + 1)).a, .int .i64 (hdF N L j far (u + 1)).b, .int .i64 (hdF N L j far (u + 1)).c, .int .i64 (hdF N L j far (u + 1)).d]) := Lib.hid (by rw [← hW6, HF1.out]; exact ((K5.out.set_ 2 _).set_ 3 _).drew)
                      have hg6 : W5.grownBy W6 (some b0) := by rw [← hW6]; exact grown_drew (grown_setCell (grown_setCell (World.grownBy.refl _ _) 2 _) 3 _)
                      have HO6 := Lib.hid (HO5.out.kept hg6 (by
                        cases h : sv.ownBlock with
                        | none => exact .inl rfl
                        | some g => exact .inr (fun e => by have := Option.some.inj e; have := HLT.out g h; omega)))
                      have HC6 := Lib.hid (HC5.out.grown hg6 HC5.out.size (fun q e => by cases e; omega))
                      rw [hW6]
                      clear hW6 hg6 HO5 HC5 K5 y0 y1' y2' y3 y4 y5 y6 y7 r2 r4
                      go_wp2
                      go_roundw
                      case rel => exact ⟨u + 1, by omega, by go_num, K6, HO6, HC6⟩
                      case measure => simp [intOf]; omega
                    · have d1 : ¬ (d : Int) ≤ (far : Int) := by omega
                      have d2 : decide ((d : Int) ≤ (far : Int)) = false := decide_eq_false d1
                      rw [if_neg hd] at gA gB gC gD
                      have K6 : Hid (Blk wr b0 44 #[.int .i64 (hdF N L j far (u + 1)).a, .int .i64 (hdF N L j far (u + 1)).b, .int .i64 (hdF N L j far (u + 1)).c, .int .i64 (hdF N L j far (u + 1)).d]) := Lib.hid (by rw [HF1.out]; dsimp only; rw [gA, gB, gC, gD]; exact K.out)
                      clear gA gB gC gD K hd
                      go_wp2
                      go_roundw
                      case rel => exact ⟨u + 1, by omega, by go_num, K6, HO, HC⟩
                      case measure => simp [intOf]; omega
                  · obtain rfl : u = n := by omega
                    obtain ⟨x, hx⟩ : ∃ x, hdF N L j far u = x := ⟨_, rfl⟩
                    rw [hx] at K HSN
                    clear hx
                    obtain ⟨x0, x1, x2, x3, -, -, -, -⟩ := K.out.four
                    have hs6 := HC.out.size
                    go_wp2_with (at_builtin; refine wpList_append_any _ rfl (.tmp 128) (.tmp 130) _ rfl w8.heap.size 44 i0 _ 4 32 Try.underlying38 HI0.out HZ0.out HZ1.out HZ2.out rfl (by omega) sv j _ rfl (HO.out.alloc _) (wr.heap.size + 1) (some ⟨wr.heap.size, 0, none⟩) 1 1 [.int .i64 x.a, .int .i64 x.b, .int .i64 x.c, .int .i64 x.d] rfl (reads_cells (blk_al rfl) (Nat.lt_succ_self _) (by rfl) (by rfl)) (by intro u hu; simp at hu; rcases hu with rfl | rfl | rfl | rfl <;> rfl) (by unfold maxLen; omega) (by omega) (by simp; omega) ?_)
                    intro v' w4 hown' hgrow _
                    have HON : Hid (w4.ownsRow w8.heap.size 44 4 v' (j + 1) (hdCells ((hrL N L far u).take (j + 1)))) := Lib.hid (by rw [HSN.out, hdCells_snoc]; exact hown')
                    have HCN := Lib.hid ((HC.out.alloc HC.out.size (.cells #[.int .i64 x.a, .int .i64 x.b, .int .i64 x.c, .int .i64 x.d] 44)).grown hgrow (by simp; omega) (fun g hg => by have := (HO.out.lt g hg).1; omega))
                    clear hown' hgrow
                    go_wp2
                    go_roundw
                    case rel => exact ⟨j + 1, v', by omega, by go_num, rfl, HON, HCN⟩
                    case measure => simp [intOf]; omega
              · obtain rfl : j = n := by omega
                obtain ⟨A9, c9, hv9, hr, hc⟩ := own_readsC HO.out
                subst hv9
                rw [List.take_of_length_le (by rw [hrL_len]; exact Nat.le_refl _)] at hr
                have HRD := Lib.hid hr
                clear hr
                go_wp2
                go_ret2
                refine ⟨A9, j, c9, by rw [HRES.out.1] <;> rfl, ?_, hc, HB.out.trans (HC.out.mono HB.out.size)⟩
                rw [HRES.out.2]
                exact ⟨(hrL_len _ _ _ _).symm, HRD.out⟩
          · have d3 : decide (256 < wow) = true := decide_eq_true (by omega)
            have d4 : 256 < wow := by omega
            have HE : Hid (hrEr b s l wow = 3 ∧ hrRes b s l wow = []) := Lib.hid (by
              have h : hrEr b s l wow = 3 := by rw [he3, hwo, if_neg (by omega)]
              exact ⟨h, hres (by rw [h]; decide)⟩)
            clear hbl hrd he3 hwo hres
            go_enter Try.func27, Try.ntmps27
            go_upto_region 1 with fail
            obtain ⟨w2, hW⟩ : ∃ W, (w.alloc (.cells #[.slice Af nf cf] 24)).alloc (.cells #[.slice A' n' c'] 24) = W := ⟨_, rfl⟩
            have hb : Below w.heap.size w w2 := by rw [← hW]; exact ((Below.refl _ _).alloc (Nat.le_refl _) _).alloc (by simp) _
            have K1 : Hid (Blk w2 w.heap.size 24 #[.slice Af nf cf]) := Lib.hid (by rw [← hW]; exact (Blk.new _ _ _).alloc _)
            have K2 : Hid (Blk w2 (w.heap.size + 1) 24 #[.slice A' n' c']) := Lib.hid (by rw [← hW]; exact blk_al (by simp))
            have HB := Lib.hid hb
            have hsz2 := hb.size
            rw [hW]
            clear hW hb
            have t1 := K1.out.one.1
            have t2 := K2.out.one.1
            go_wp2_with fail
            have CALL := C1.out _ HB.out
            refine CALL.mono ?_
            rintro e w3 ⟨rfl, hb⟩
            clear CALL
            have hsz3 := hb.size
            replace K1 := Lib.hid (K1.out.below hb K1.out.lt)
            replace K2 := Lib.hid (K2.out.below hb K2.out.lt)
            replace HB := Lib.hid (HB.out.trans (hb.mono (by omega)))
            clear hb
            have t1 := K1.out.one.1
            have t2 := K2.out.one.1
            go_wp2_with fail
            have CALL := C2.out _ HB.out
            refine CALL.mono ?_
            rintro e w4 ⟨rfl, hb⟩
            clear CALL
            have hsz4 := hb.size
            replace K1 := Lib.hid (K1.out.below hb K1.out.lt)
            replace K2 := Lib.hid (K2.out.below hb K2.out.lt)
            replace HB := Lib.hid (HB.out.trans (hb.mono (by omega)))
            clear hb
            have t1 := K1.out.one.1
            have t2 := K2.out.one.1
            go_wp2_with fail
            have CALL := C4.out _ HB.out
            refine CALL.mono ?_
            rintro e w5 ⟨rfl, hb⟩
            clear CALL
            have hsz5 := hb.size
            replace K1 := Lib.hid (K1.out.below hb K1.out.lt)
            replace K2 := Lib.hid (K2.out.below hb K2.out.lt)
            replace HB := Lib.hid (HB.out.trans (hb.mono (by omega)))
            clear hb
            have t1 := K1.out.one.1
            have t2 := K2.out.one.1
            clear C1 C2 C4
            go_wp2
            go_ret2
            exact ⟨none, 0, 0, by rw [HE.out.1] <;> rfl, by rw [HE.out.2]; exact HNIL.out _, Nat.le_refl _, HB.out⟩
        · have d1 : decide (wow < 0) = true := decide_eq_true (by omega)
          have d2 : wow < 0 := by omega
          have HE : Hid (hrEr b s l wow = 3 ∧ hrRes b s l wow = []) := Lib.hid (by
            have h : hrEr b s l wow = 3 := by rw [he3, hwo, if_neg (by omega)]
            exact ⟨h, hres (by rw [h]; decide)⟩)
          clear hbl hrd he3 hwo hres
          go_enter Try.func27, Try.ntmps27
          go_upto_region 1 with fail
          obtain ⟨w2, hW⟩ : ∃ W, (w.alloc (.cells #[.slice Af nf cf] 24)).alloc (.cells #[.slice A' n' c'] 24) = W := ⟨_, rfl⟩
          have hb : Below w.heap.size w w2 := by rw [← hW]; exact ((Below.refl _ _).alloc (Nat.le_refl _) _).alloc (by simp) _
          have K1 : Hid (Blk w2 w.heap.size 24 #[.slice Af nf cf]) := Lib.hid (by rw [← hW]; exact (Blk.new _ _ _).alloc _)
          have K2 : Hid (Blk w2 (w.heap.size + 1) 24 #[.slice A' n' c']) := Lib.hid (by rw [← hW]; exact blk_al (by simp))
          have HB := Lib.hid hb
          have hsz2 := hb.size
          rw [hW]
          clear hW hb
          have t1 := K1.out.one.1
          have t2 := K2.out.one.1
          go_wp2_with fail
          have CALL := C1.out _ HB.out
          refine CALL.mono ?_
          rintro e w3 ⟨rfl, hb⟩
          clear CALL
          have hsz3 := hb.size
          replace K1 := Lib.hid (K1.out.below hb K1.out.lt)
          replace K2 := Lib.hid (K2.out.below hb K2.out.lt)
          replace HB := Lib.hid (HB.out.trans (hb.mono (by omega)))
          clear hb
          have t1 := K1.out.one.1
          have t2 := K2.out.one.1
          go_wp2_with fail
          have CALL := C2.out _ HB.out
          refine CALL.mono ?_
          rintro e w4 ⟨rfl, hb⟩
          clear CALL
          have hsz4 := hb.size
          replace K1 := Lib.hid (K1.out.below hb K1.out.lt)
          replace K2 := Lib.hid (K2.out.below hb K2.out.lt)
          replace HB := Lib.hid (HB.out.trans (hb.mono (by omega)))
          clear hb
          have t1 := K1.out.one.1
          have t2 := K2.out.one.1
          go_wp2_with fail
          have CALL := C4.out _ HB.out
          refine CALL.mono ?_
          rintro e w5 ⟨rfl, hb⟩
          clear CALL
          have hsz5 := hb.size
          replace K1 := Lib.hid (K1.out.below hb K1.out.lt)
          replace K2 := Lib.hid (K2.out.below hb K2.out.lt)
          replace HB := Lib.hid (HB.out.trans (hb.mono (by omega)))
          clear hb
          have t1 := K1.out.one.1
          have t2 := K2.out.one.1
          clear C1 C2 C4
          go_wp2
          go_ret2
          exact ⟨none, 0, 0, by rw [HE.out.1] <;> rfl, by rw [HE.out.2]; exact HNIL.out _, Nat.le_refl _, HB.out⟩
    · have HE : Hid (hrEr b s l wow = e2 ∧ hrRes b s l wow = []) := Lib.hid (by
        have h : hrEr b s l wow = e2 := by 
          rw [he]
          show orL [ckTip s, ckG l, ckBl b s, ckWo wow] = e2
          rw [hrd]
          unfold orL
          rw [hrd] at z2
          by_cases a : ckTip s = 0
          · rw [if_pos a, if_pos a]
            unfold orL
            by_cases a' : ckG l = 0
            · exact absurd (by simp [orL, a, a']) z2
            · rw [if_neg a', if_neg a']
          · rw [if_neg a, if_neg a]
        exact ⟨h, hres (by rw [h]; exact z2)⟩)
      clear hbl hrd he hwo hres
      have q1 : (e2 != 0) = true := by rw [bne_iff_ne]; exact z2
      clear z2
      go_enter Try.func27, Try.ntmps27
      go_upto_region 1 with fail
      obtain ⟨w2, hW⟩ : ∃ W, (w.alloc (.cells #[.slice Af nf cf] 24)).alloc (.cells #[.slice A' n' c'] 24) = W := ⟨_, rfl⟩
      have hb : Below w.heap.size w w2 := by rw [← hW]; exact ((Below.refl _ _).alloc (Nat.le_refl _) _).alloc (by simp) _
      have K1 : Hid (Blk w2 w.heap.size 24 #[.slice Af nf cf]) := Lib.hid (by rw [← hW]; exact (Blk.new _ _ _).alloc _)
      have K2 : Hid (Blk w2 (w.heap.size + 1) 24 #[.slice A' n' c']) := Lib.hid (by rw [← hW]; exact blk_al (by simp))
      have HB := Lib.hid hb
      have hsz2 := hb.size
      rw [hW]
      clear hW hb
      have t1 := K1.out.one.1
      have t2 := K2.out.one.1
      go_wp2_with fail
      have CALL := C1.out _ HB.out
      refine CALL.mono ?_
      rintro e w3 ⟨rfl, hb⟩
      clear CALL
      have hsz3 := hb.size
      replace K1 := Lib.hid (K1.out.below hb K1.out.lt)
      replace K2 := Lib.hid (K2.out.below hb K2.out.lt)
      replace HB := Lib.hid (HB.out.trans (hb.mono (by omega)))
      clear hb
      have t1 := K1.out.one.1
      have t2 := K2.out.one.1
      go_wp2_with fail
      have CALL := C2.out _ HB.out
      refine CALL.mono ?_
      rintro e w4 ⟨rfl, hb⟩
      clear CALL
      have hsz4 := hb.size
      replace K1 := Lib.hid (K1.out.below hb K1.out.lt)
      replace K2 := Lib.hid (K2.out.below hb K2.out.lt)
      replace HB := Lib.hid (HB.out.trans (hb.mono (by omega)))
      clear hb
      have t1 := K1.out.one.1
      have t2 := K2.out.one.1
      clear C1 C2 C4
      go_wp2
      go_ret2
      exact ⟨none, 0, 0, by rw [HE.out.1] <;> rfl, by rw [HE.out.2]; exact HNIL.out _, Nat.le_refl _, HB.out⟩
  · have HE : Hid (hrEr b s l wow = e1 ∧ hrRes b s l wow = []) := Lib.hid (by
      have h : hrEr b s l wow = e1 := by rw [he]; show (if e1 = 0 then _ else e1) = e1; rw [if_neg z1]
      exact ⟨h, hres (by rw [h]; exact z1)⟩)
    clear hbl hrd he hwo hres
    have q1 : (e1 != 0) = true := by rw [bne_iff_ne]; exact z1
    clear z1
    go_enter Try.func27, Try.ntmps27
    go_upto_region 1 with fail
    obtain ⟨w2, hW⟩ : ∃ W, (w.alloc (.cells #[.slice Af nf cf] 24)).alloc (.cells #[.slice A' n' c'] 24) = W := ⟨_, rfl⟩
    have hb : Below w.heap.size w w2 := by rw [← hW]; exact ((Below.refl _ _).alloc (Nat.le_refl _) _).alloc (by simp) _
    have K1 : Hid (Blk w2 w.heap.size 24 #[.slice Af nf cf]) := Lib.hid (by rw [← hW]; exact (Blk.new _ _ _).alloc _)
    have K2 : Hid (Blk w2 (w.heap.size + 1) 24 #[.slice A' n' c']) := Lib.hid (by rw [← hW]; exact blk_al (by simp))
    have HB := Lib.hid hb
    have hsz2 := hb.size
    rw [hW]
    clear hW hb
    have t1 := K1.out.one.1
    have t2 := K2.out.one.1
    go_wp2_with fail
    have CALL := C1.out _ HB.out
    refine CALL.mono ?_
    rintro e w3 ⟨rfl, hb⟩
    clear CALL
    have hsz3 := hb.size
    replace K1 := Lib.hid (K1.out.below hb K1.out.lt)
    replace K2 := Lib.hid (K2.out.below hb K2.out.lt)
    replace HB := Lib.hid (HB.out.trans (hb.mono (by omega)))
    clear hb
    have t1 := K1.out.one.1
    have t2 := K2.out.one.1
    clear C1 C2 C4
    go_wp2
    go_ret2
    exact ⟨none, 0, 0, by rw [HE.out.1] <;> rfl, by rw [HE.out.2]; exact HNIL.out _, Nat.le_refl _, HB.out⟩
end Go.Proofs.Ytjdnpgilinfkgaa
