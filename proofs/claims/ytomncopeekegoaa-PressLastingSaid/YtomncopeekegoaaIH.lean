/-
  Mounts of package press.
-/
import Derived.Test.YtomncopeekegoaaIG
namespace Go.Proofs.Ytomncopeekegoaa
open Go.RowKit

def mtE (a b : List Int) (d : Int) : Int := if ckSt a b = 0 then (if win d 0 1073741824 = true then (if min a.sum b.sum < d then 15 else 0) else 3) else ckSt a b
def mtL (a b : List Int) (d : Int) : List Tri := if mtE a b d = 0 then mnt (d.toNat + a.length + b.length) a b 0 0 d else []
theorem ckSt_0 {a b : List Int} (h : ckSt a b = 0) : a.length ≤ 64 ∧ b.length ≤ 64 ∧ lvW a = true ∧ lvW b = true := by
  unfold ckSt at h
  split at h
  · cases h
  · rename_i h1
    cases ha : lvW a <;> cases hb : lvW b <;> simp [orL, ckLv, ha, hb] at h ⊢
    omega
theorem mt_fea {a b : List Int} {d : Int} (h : mtE a b d = 0) : Fea a b 0 0 d ∧ a.length ≤ 64 ∧ b.length ≤ 64 ∧ d ≤ 1073741824 := by
  unfold mtE at h
  split at h
  · rename_i h1
    obtain ⟨l1, l2, l3, l4⟩ := ckSt_0 h1
    split at h
    · rename_i h2
      obtain ⟨d1, d2⟩ := win_iff.1 h2
      split at h
      · cases h
      · rename_i h3
        exact ⟨⟨lvW_bd l3, lvW_bd l4, d1, by simp only [List.drop_zero]; omega, by simp only [List.drop_zero]; omega⟩, l1, l2, d2⟩
    · cases h
  · rename_i h1; exact absurd h h1
/-- What a call leaves that returns mounts and an error. -/
def MtPost (w : World) (a b : List Int) (d : Int) (e : Ending) (w' : World) : Prop :=
  ∃ A n c, e = .returned (.tuple #[.slice A n c, .int .i64 (mtE a b d)]) ∧ RT3 w' w'.heap.size A n (mtL a b d) ∧ n ≤ c ∧ Below w.heap.size w w'
/-- .. whose row is laid by the call. -/
def MtPostO (w : World) (a b : List Int) (d : Int) (e : Ending) (w' : World) : Prop :=
  ∃ v n, e = .returned (.tuple #[v, .int .i64 (mtE a b d)]) ∧ w'.ownsRow w.heap.size 63 3 v n (triCells (mtL a b d)) ∧ Below w.heap.size w w'
theorem mnt_len : ∀ (f : Nat) (x y : List Int) (i j : Nat) (d : Int), (mnt f x y i j d).length ≤ f
  | 0, _, _, _, _, _ => Nat.le_refl _
  | f + 1, x, y, i, j, d => by
    rw [mnt]
    split
    · simp
    · split
      · exact Nat.le_succ_of_le (mnt_len f _ _ _ _ _)
      · split
        · exact Nat.le_succ_of_le (mnt_len f _ _ _ _ _)
        · simpa using mnt_len f _ _ _ _ _

set_option maxRecDepth 100000 in
set_option maxHeartbeats 8000000 in
theorem Mounts_own (B : Nat) (A A' : Option Addr) (n c n' c' : Nat) (a b : List Int) (d : Int) (w : World) (h0 : LI w B A n a) (h1 : LI w B A' n' b) (hB : B ≤ w.heap.size) (hn : n ≤ 9223372036854775807) (hn' : n' ≤ 9223372036854775807) :
    Calls Try.prog 31 #[.slice A n c, .slice A' n' c', .int .i64 d] w (MtPostO w a b d) := by
  have H := Lib.hid (h0.more hB)
  have H' := Lib.hid (h1.more hB)
  have e0 : n = a.length := h0.1
  have e1 : n' = b.length := h1.1
  clear h0 h1 hB
  obtain ⟨ck, hck⟩ : ∃ ck, ckSt a b = ck := ⟨_, rfl⟩
  have HCK := Lib.hid hck
  have HME : Hid (mtE a b d = if ck = 0 then (if win d 0 1073741824 = true then (if min a.sum b.sum < d then 15 else 0) else 3) else ck) := Lib.hid (by unfold mtE; rw [hck])
  have HML : Hid (mtL a b d = if mtE a b d = 0 then mnt (d.toNat + a.length + b.length) a b 0 0 d else []) := Lib.hid rfl
  have HPOST : Hid (∀ (er : Int) (w' : World), mtE a b d = er → ¬ er = 0 → Below w.heap.size w w' → MtPostO w a b d (.returned (.tuple #[.slice none 0 0, .int .i64 er])) w') := Lib.hid (fun er w' he hne hb =>
    ⟨.slice none 0 0, 0, by rw [he], by rw [HML.out, he, if_neg hne]; exact World.ownsRow_nil _ _ _ _, hb⟩)
  by_cases hc : ck = 0
  · subst hc
    obtain ⟨l1, l2, l3, l4⟩ := ckSt_0 hck
    have hba := lvW_bd l3
    have hbb := lvW_bd l4
    have HBA := Lib.hid hba
    have HBB := Lib.hid hbb
    have b1 := sum_bd hba
    have b2 := sum_bd hbb
    have n64 : n ≤ 64 := by omega
    have n64' : n' ≤ 64 := by omega
    clear hck l3 l4 hba hbb e0 e1
    cases hw : win d 0 1073741824
    · have HE : Hid (mtE a b d = 3) := Lib.hid (by rw [HME.out, hw]; rfl)
      have HW := Lib.hid hw
      clear hw
      go_enter Try.func31, Try.ntmps31
      go_wp2_with fail
      refine (checkSets_any w.heap.size A A' n c n' c' a b w H.out H'.out (Nat.le_refl _) hn hn').mono ?_
      rintro e w1 ⟨rfl, hb⟩
      rw [HCK.out]
      go_wp2_with ((with_reducible refine (between64_any _ _ _ _).mono ?_); rintro e w' ⟨rfl, rfl⟩; rw [HW.out])
      go_ret2
      exact HPOST.out 3 _ HE.out (by omega) hb
    · have HW := Lib.hid hw
      have hdd := win_iff.1 hw
      obtain ⟨sa, hsa⟩ : ∃ sa, a.sum = sa := ⟨_, rfl⟩
      obtain ⟨sb, hsb⟩ : ∃ sb, b.sum = sb := ⟨_, rfl⟩
      have HSA := Lib.hid hsa
      have HSB := Lib.hid hsb
      rw [hsa] at b1
      rw [hsb] at b2
      obtain ⟨mi, hmi⟩ : ∃ mi, min sa sb = mi := ⟨_, rfl⟩
      have q1 : (if sb < sa then sb else sa) = mi := by rw [← hmi]; split <;> omega
      by_cases hlt : mi < d
      · have HE : Hid (mtE a b d = 15) := Lib.hid (by rw [HME.out, hw, hsa, hsb, hmi, if_pos rfl, if_pos rfl, if_pos hlt])
        clear hw hsa hsb hmi
        go_enter Try.func31, Try.ntmps31
        go_wp2_with fail
        refine (checkSets_any w.heap.size A A' n c n' c' a b w H.out H'.out (Nat.le_refl _) hn hn').mono ?_
        rintro e w1 ⟨rfl, hb⟩
        rw [HCK.out]
        go_wp2_with ((with_reducible refine (between64_any _ _ _ _).mono ?_); rintro e w' ⟨rfl, rfl⟩; rw [HW.out])
        refine (sum_any _ A n c a w1 (H.out.below hb (Nat.le_refl _)) (by omega) HBA.out).mono ?_
        rintro e w' ⟨rfl, rfl⟩
        rw [HSA.out]
        go_wp2_with fail
        refine (sum_any _ A' n' c' b w1 (H'.out.below hb (Nat.le_refl _)) (by omega) HBB.out).mono ?_
        rintro e w' ⟨rfl, rfl⟩
        rw [HSB.out]
        go_wp2
        go_ret2
        exact HPOST.out 15 _ HE.out (by omega) hb
      · have hE : mtE a b d = 0 := by rw [HME.out, hw, hsa, hsb, hmi, if_pos rfl, if_pos rfl, if_neg hlt]
        have HE := Lib.hid hE
        have HFEA := Lib.hid (mt_fea hE)
        clear hw hsa hsb hmi hE
        go_enter Try.func31, Try.ntmps31
        go_wp2_with fail
        refine (checkSets_any w.heap.size A A' n c n' c' a b w H.out H'.out (Nat.le_refl _) hn hn').mono ?_
        rintro e w1 ⟨rfl, hb⟩
        have HB1 := Lib.hid hb
        clear hb
        rw [HCK.out]
        go_wp2_with ((with_reducible refine (between64_any _ _ _ _).mono ?_); rintro e w' ⟨rfl, rfl⟩; rw [HW.out])
        refine (sum_any _ A n c a w1 (H.out.below HB1.out (Nat.le_refl _)) (by omega) HBA.out).mono ?_
        rintro e w' ⟨rfl, rfl⟩
        rw [HSA.out]
        go_wp2_with fail
        refine (sum_any _ A' n' c' b w1 (H'.out.below HB1.out (Nat.le_refl _)) (by omega) HBB.out).mono ?_
        rintro e w' ⟨rfl, rfl⟩
        rw [HSB.out]
        go_wp2_with fail
        refine (Clone_any _ A n c a w1 (H.out.below HB1.out (Nat.le_refl _)) HB1.out.size (by omega)).mono ?_
        rintro e w2 ⟨va, rfl, hva, hb2⟩
        have HVA := Lib.hid hva
        have HB2 := Lib.hid (HB1.out.trans (hb2.mono HB1.out.size))
        have hs2 := hb2.size
        have hs1 := HB1.out.size
        clear hva hb2
        go_wp2_with fail
        refine (Clone_any _ A' n' c' b w2 (H'.out.below HB2.out (Nat.le_refl _)) HB2.out.size (by omega)).mono ?_
        rintro e w3 ⟨vb, rfl, hvb, hb3⟩
        have HVA3 := Lib.hid (own_base_ (own_below HVA.out hb3) hs1)
        have HVB3 := Lib.hid (own_base_ hvb (base' := w.heap.size) (by omega))
        have HAP : Hid (Apart va vb) := Lib.hid (fun g hg hg2 => by have h1 := (HVA.out.lt g hg).2; have h2 := (hvb.lt g hg2).1; omega)
        have HB3 := Lib.hid (HB2.out.trans (hb3.mono HB2.out.size))
        have hs3 := hb3.size
        have hs2_ := HB2.out.size
        clear hvb hb3
        go_wp2_with fail
        refine (inTurn_any w.heap.size va vb n n' a b d w3 HVA3.out HVB3.out HAP.out (by omega) HFEA.out.1 HFEA.out.2.1 HFEA.out.2.2.1 HFEA.out.2.2.2).mono ?_
        rintro e w4 ⟨v, rfl, k, hown, hb4⟩
        have HO := Lib.hid hown
        have HB4 := Lib.hid (HB3.out.trans hb4)
        clear hown hb4
        have HO2 := Lib.hid (own_base_ HO.out (base' := w.heap.size) (by omega))
        go_wp2
        go_ret2
        exact ⟨v, k, by rw [HE.out]; rfl, by rw [HML.out, HE.out, if_pos rfl]; exact HO2.out, HB4.out⟩
  · have HE : Hid (mtE a b d = ck) := Lib.hid (by rw [HME.out, if_neg hc])
    have hc' : (ck != 0) = true := by rw [bne_iff_ne]; exact hc
    have hc'' : (ck == 0) = false := beq_eq_false_iff_ne.2 hc
    clear hck e0 e1
    go_enter Try.func31, Try.ntmps31
    go_wp2_with fail
    refine (checkSets_any w.heap.size A A' n c n' c' a b w H.out H'.out (Nat.le_refl _) hn hn').mono ?_
    rintro e w1 ⟨rfl, hb⟩
    rw [HCK.out]
    go_wp2
    go_ret2
    exact HPOST.out ck _ HE.out hc hb
theorem Mounts_any (B : Nat) (A A' : Option Addr) (n c n' c' : Nat) (a b : List Int) (d : Int) (w : World) (h0 : LI w B A n a) (h1 : LI w B A' n' b) (hB : B ≤ w.heap.size) (hn : n ≤ 9223372036854775807) (hn' : n' ≤ 9223372036854775807) :
    Calls Try.prog 31 #[.slice A n c, .slice A' n' c', .int .i64 d] w (MtPost w a b d) :=
  (Mounts_own B A A' n c n' c' a b d w h0 h1 hB hn hn').mono fun _ _ ⟨v, n1, e1, o1, b1⟩ => by
    obtain ⟨A1, c1, rfl, r1, l1⟩ := rt3_own o1
    exact ⟨A1, n1, c1, e1, r1, l1, b1⟩
end Go.Proofs.Ytomncopeekegoaa
