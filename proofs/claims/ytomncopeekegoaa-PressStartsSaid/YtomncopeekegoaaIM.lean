/-
  CheckStarts of package press.
-/
import Derived.Test.YtomncopeekegoaaIL
import Derived.Deep.RegionHeld3
import Derived.OrdersHeld
namespace Go.Proofs.Ytomncopeekegoaa
open Go.RowKit

def fstB (P : Nat → Bool) (n : Nat) : Option Nat := (List.range n).find? P
theorem fstB_none {P : Nat → Bool} {n : Nat} (h : ∀ j, j < n → P j = false) : fstB P n = none := by
  unfold fstB; rw [List.find?_eq_none]; intro x hx; rw [h x (List.mem_range.1 hx)]; simp
theorem fstB_some {P : Nat → Bool} {n i : Nat} (hi : i < n) (hp : P i = true) (h : ∀ j, j < i → P j = false) : fstB P n = some i := by
  unfold fstB
  have e : List.range n = List.range i ++ (i :: (List.range' (i + 1) (n - i - 1))) := by
    rw [List.range_eq_range', List.range_eq_range', show n = i + (n - i - 1 + 1) by omega, ← List.range'_append_1 (s := 0) (m := i)]
    simp [List.range'_succ]
  have hn : (List.range i).find? P = none := fstB_none h
  rw [e, List.find?_append, hn]
  simp [hp]
/-- The time before a start. -/
def prv (l : List Int) (i : Nat) : Int := if i = 0 then 0 else l.getD (i - 1) 0
def bad1 (l : List Int) (i : Nat) : Bool := decide (l.getD i 0 < prv l i)
def bad2 (p b : Nat) (st rs : Int) (l : List Int) (i : Nat) : Bool := decide (l.getD i 0 < ear p b st rs (l.take i))
/-- What CheckStarts returns: an index or how many, and the error. -/
def csR (p b st rs : Int) (l : List Int) : Int × Int :=
  if ckH p b st rs l.length = 0 then
    (match fstB (bad1 l) l.length with
    | some i => ((i : Int), 3)
    | none => match fstB (bad2 p.toNat b.toNat st rs l) l.length with
      | some i => ((i : Int), 20)
      | none => ((l.length : Int), 0))
  else (0, ckH p b st rs l.length)
theorem csR_1 {p b st rs : Int} {l : List Int} {i : Nat} (hc : ckH p b st rs l.length = 0) (hi : i < l.length) (hp : bad1 l i = true) (h : ∀ j, j < i → bad1 l j = false) : csR p b st rs l = ((i : Int), 3) := by
  unfold csR; rw [if_pos hc, fstB_some hi hp h]
theorem csR_2 {p b st rs : Int} {l : List Int} {i : Nat} (hc : ckH p b st rs l.length = 0) (h1 : ∀ j, j < l.length → bad1 l j = false) (hi : i < l.length) (hp : bad2 p.toNat b.toNat st rs l i = true) (h : ∀ j, j < i → bad2 p.toNat b.toNat st rs l j = false) : csR p b st rs l = ((i : Int), 20) := by
  unfold csR; rw [if_pos hc, fstB_none h1, fstB_some hi hp h]
theorem csR_3 {p b st rs : Int} {l : List Int} (hc : ckH p b st rs l.length = 0) (h1 : ∀ j, j < l.length → bad1 l j = false) (h : ∀ j, j < l.length → bad2 p.toNat b.toNat st rs l j = false) : csR p b st rs l = ((l.length : Int), 0) := by
  unfold csR; rw [if_pos hc, fstB_none h1, fstB_none h]
theorem csR_0 {p b st rs : Int} {l : List Int} (hc : ¬ ckH p b st rs l.length = 0) : csR p b st rs l = (0, ckH p b st rs l.length) := by
  unfold csR; rw [if_neg hc]
theorem Srt.of {l : List Int} (h : ∀ j, j < l.length → bad1 l j = false) : Srt l := by
  have step : ∀ j, j < l.length → prv l j ≤ l.getD j 0 := fun j hj => by have := h j hj; unfold bad1 at this; simp only [decide_eq_false_iff_not] at this; omega
  have nn : ∀ j, j < l.length → 0 ≤ l.getD j 0 := by
    intro j
    induction j with
    | zero => intro hj; have := step 0 hj; unfold prv at this; simpa using this
    | succ j ih =>
      intro hj
      have h1 := step (j + 1) hj
      have h2 := ih (by omega)
      unfold prv at h1
      rw [if_neg (by omega), Nat.add_sub_cancel] at h1
      omega
  intro i j hij hj
  refine ⟨nn i (by omega), ?_⟩
  induction j with
  | zero => have : i = 0 := by omega
            subst this; exact Int.le_refl _
  | succ j ih =>
    rcases Nat.lt_or_ge i (j + 1) with h1 | h1
    · have h2 := ih (by omega) (by omega)
      have h3 := step (j + 1) hj
      unfold prv at h3
      rw [if_neg (by omega), Nat.add_sub_cancel] at h3
      omega
    · have : i = j + 1 := by omega
      subst this; exact Int.le_refl _
theorem Srt.nonneg {l : List Int} (h : Srt l) : ∀ x ∈ l, 0 ≤ x := by
  intro x hx
  obtain ⟨i, hi, rfl⟩ := List.getElem_of_mem hx
  have := (h i i (Nat.le_refl _) hi).1
  rw [List.getD_eq_getElem?_getD, List.getElem?_eq_getElem hi] at this
  exact this

set_option maxRecDepth 100000 in
set_option maxHeartbeats 8000000 in
theorem CheckStarts_any (B : Nat) (A : Option Addr) (n c : Nat) (l : List Int) (p b st rs : Int) (w : World) (h0 : LI w B A n l) (hB : B ≤ w.heap.size) (hn : n ≤ 9223372036854775807) (hnc : n ≤ c) (hi64 : ∀ x ∈ l, x ≤ 9223372036854775807) :
    Calls Try.prog 28 #[.int .i64 p, .int .i64 b, .int .i64 st, .int .i64 rs, .slice A n c] w fun e w' =>
      e = .returned (.tuple #[.int .i64 (csR p b st rs l).1, .int .i64 (csR p b st rs l).2]) ∧ Below w.heap.size w w' := by
  have H := Lib.hid (h0.more hB)
  have HN := Lib.hid h0.1
  have HI := Lib.hid hi64
  obtain ⟨er, her⟩ : ∃ er, ckH p b st rs (n : Int) = er := ⟨_, rfl⟩
  have HER := Lib.hid her
  have her' : ckH p b st rs (l.length : Int) = er := by rw [← h0.1]; exact her
  by_cases hz : er = 0
  · subst hz
    obtain ⟨hp, hb, hst, hrs, hnn⟩ := ckH_0.1 her
    obtain ⟨p', rfl⟩ : ∃ x : Nat, p = x := ⟨p.toNat, by omega⟩
    obtain ⟨b', rfl⟩ : ∃ x : Nat, b = x := ⟨b.toNat, by omega⟩
    have HC1 := Lib.hid (fun (i : Nat) (h1 : i < l.length) h2 h3 => csR_1 (i := i) her' h1 h2 h3)
    have HC2 := Lib.hid (fun (i : Nat) h0 (h1 : i < l.length) h2 h3 => csR_2 (i := i) her' h0 h1 h2 h3)
    have HC3 := Lib.hid (fun h0 h1 => csR_3 her' h0 h1)
    obtain ⟨R, hR⟩ : ∃ R, csR p' b' st rs l = R := ⟨_, rfl⟩
    rw [hR] at HC1 HC2 HC3
    rw [hR]
    clear h0 hB hi64 her her' hR
    go_enter Try.func28, Try.ntmps28
    go_wp2_with fail
    refine (checkHouse_any _ _ _ _ _ _).mono ?_
    rintro e w1 ⟨rfl, hb1⟩
    rw [HER.out]
    have K0 := Lib.hid ((Blk.new w 109 #[.int .i64 p', .int .i64 b', .int .i64 st, .int .i64 rs]).below hb1 (by simp))
    have HB1 := Lib.hid ((below_a w (.cells #[.int .i64 p', .int .i64 b', .int .i64 st, .int .i64 rs] 109)).trans (hb1.mono (by simp)))
    clear hb1
    go_wp2
    go_loop [14, 33] (fun v z => ∃ k : Nat, k ≤ n ∧ z = .int .i64 k ∧ v = .int .i64 (prv l k) ∧ Hid (∀ j, j < k → bad1 l j = false)) (fun _ z => n - (intOf z).toNat)
    case atStart => exact ⟨0, Nat.zero_le _, rfl, rfl, Lib.hid (fun j hj => absurd hj (by omega))⟩
    case round =>
      obtain ⟨k, hk, rfl, rfl, HV⟩ := hrel
      by_cases hlt : k < n
      · have hkl : k < l.length := by have := HN.out; omega
        obtain ⟨ad, hA, hbl, c1⟩ := (H.out.below HB1.out (Nat.le_refl _)).at_ hkl
        have hbad : bad1 l k = decide (l.getD k 0 < prv l k) := rfl
        have hnx : prv l (k + 1) = l.getD k 0 := by unfold prv; rw [if_neg (by omega), Nat.add_sub_cancel]
        have hgd : l.getD k 0 = l[k] := by rw [List.getD_eq_getElem?_getD, List.getElem?_eq_getElem hkl]; rfl
        rw [hgd] at hbad hnx
        have HC1k := Lib.hid (HC1.out k hkl)
        obtain ⟨x, hx⟩ : ∃ x, l[k] = x := ⟨_, rfl⟩
        rw [hx] at c1 hbad hnx
        obtain ⟨q, hq⟩ : ∃ q, prv l k = q := ⟨_, rfl⟩
        rw [hq] at hbad ⊢
        have HNX := Lib.hid hnx
        have HBAD := Lib.hid hbad
        obtain rfl := hA
        have g1 : (k : Int) < (n : Int) := by omega
        have e2 : IntKind.i64.wrap ((k : Int) + 1) = (k : Int) + 1 := IntWalk.i64_in _ (by omega)
        clear hx hq hbl hgd hnx hbad
        by_cases hlx : x < q
        · have HE := Lib.hid (HC1k.out (by rw [HBAD.out]; simpa using hlx) HV.out)
          go_wp2
          go_ret2
          rw [HE.out]
          exact ⟨rfl, HB1.out⟩
        · have HVN : Hid (∀ j, j < k + 1 → bad1 l j = false) := Lib.hid (fun j hj => by
            rcases Nat.lt_or_ge j k with h | h
            · exact HV.out j h
            · have : j = k := by omega
              subst this; rw [HBAD.out]; simpa using hlx)
          go_wp2
          go_round
          case rel => exact ⟨k + 1, by omega, by go_num, by rw [HNX.out], HVN⟩
          case measure => simp [intOf]; omega
      · have hall : ∀ j, j < l.length → bad1 l j = false := fun j hj => HV.out j (by have := HN.out; omega)
        have HALL := Lib.hid hall
        have HSR := Lib.hid (Srt.of hall)
        obtain ⟨q, hq⟩ : ∃ q, prv l k = q := ⟨_, rfl⟩
        rw [hq]
        clear hall HV HC1 hq
        go_wp2
        go_loopw [46] (fun z wr => ∃ k : Nat, k ≤ n ∧ z = .int .i64 k ∧ Hid (∀ j, j < k → bad2 p' b' st rs l j = false) ∧ Hid (Below w.heap.size w wr) ∧ Hid (Blk wr w.heap.size 109 #[.int .i64 p', .int .i64 b', .int .i64 st, .int .i64 rs])) (fun z _ => n - (intOf z).toNat)
        case atStart => exact ⟨0, Nat.zero_le _, rfl, Lib.hid (fun j hj => absurd hj (by omega)), HB1, K0⟩
        case round =>
          rename_i k0 hk0 hlt0
          clear HB1 K0
          obtain ⟨k, hk, rfl, HV, HB, K0⟩ := hrel
          by_cases hlt : k < n
          · have hkl : k < l.length := by have := HN.out; omega
            have hLI := H.out.below HB.out (Nat.le_refl _)
            obtain ⟨ad, hA, hbl, c1⟩ := hLI.at_ hkl
            have hgd : l.getD k 0 = l[k] := by rw [List.getD_eq_getElem?_getD, List.getElem?_eq_getElem hkl]; rfl
            have hbad : bad2 p' b' st rs l k = decide (l.getD k 0 < ear p' b' st rs (l.take k)) := rfl
            have hx0 : 0 ≤ l[k] ∧ l[k] ≤ 9223372036854775807 := ⟨HSR.out.nonneg _ (List.getElem_mem hkl), HI.out _ (List.getElem_mem hkl)⟩
            rw [hgd] at hbad
            have HLT := Lib.hid (hLI.take k hk)
            have CALL := Lib.hid (fun (W : World) (hb : Below wr.heap.size wr W) => earliest_any W.heap.size p' b' st rs A k c (l.take k) W (((HLT.out.more HB.out.size).below hb (Nat.le_refl _)).more hb.size) (Nat.le_refl _) (by omega) (by omega) hst hrs (by omega) (fun x hx => ⟨HSR.out.nonneg x (List.mem_of_mem_take hx), HI.out x (List.mem_of_mem_take hx)⟩))
            have hsl := fun W => nums_to A k n c (by omega) W
            have HC2k := Lib.hid (HC2.out k HALL.out hkl)
            obtain ⟨x, hx⟩ : ∃ x, l[k] = x := ⟨_, rfl⟩
            rw [hx] at c1 hbad hx0
            obtain ⟨q, hq⟩ : ∃ q, ear p' b' st rs (l.take k) = q := ⟨_, rfl⟩
            rw [hq] at hbad CALL
            have HBAD := Lib.hid hbad
            obtain rfl := hA
            have g1 : (k : Int) < (n : Int) := by omega
            have e2 : IntKind.i64.wrap ((k : Int) + 1) = (k : Int) + 1 := IntWalk.i64_in _ (by omega)
            have e3 : IntKind.u64.wrap x = x := IntWalk.u64_in _ (by omega)
            clear hx hq hbl hgd hbad hLI
            by_cases hlx : x < q
            · have HE := Lib.hid (HC2k.out (by show bad2 p' b' st rs l k = true; rw [HBAD.out]; simpa using hlx) HV.out)
              --<1
              go_wp2_with fail
              refine wp_region_held_drew (S := fun w' => w'.cell? ⟨w.heap.size, 0, none⟩ = some (.int .i64 p') ∧ w'.cell? ⟨w.heap.size, 1, none⟩ = some (.int .i64 b') ∧ w'.cell? ⟨w.heap.size, 2, none⟩ = some (.int .i64 st) ∧ w'.cell? ⟨w.heap.size, 3, none⟩ = some (.int .i64 rs)) (by kernel_rfl) ⟨(K0.out.cell 0).trans rfl, (K0.out.cell 1).trans rfl, (K0.out.cell 2).trans rfl, (K0.out.cell 3).trans rfl⟩ (fun hHeld => ?_)
              refine wpAnyH_take (i := 0) (oi := { dst := some 51, op := Go.Op.move (Go.Operand.tmp 18), type := 2, pos := "boiler.go:42", after := #[], guard := none }) (v := ?vt1) rfl (by kernel_rfl) (by kernel_rfl) (by kernel_rfl) (fun _ _ _ h => h) (Or.inl ⟨by rfl, ?ht1⟩) hHeld ?_
              case ht1 => intro w hSw; (obtain ⟨z1, z2, z3, z4⟩ := hSw; try dsimp only at z1 z2 z3 z4); go_simp; try with_reducible rfl
              simp only [Act.put, List.setIfInBounds_toArray, List.set_cons_zero, List.set_cons_succ]
              refine wpAnyH_take (i := 1) (oi := { dst := some 52, op := Go.Op.convert 2 111 (Go.Operand.tmp 51), type := 111, pos := "boiler.go:42", after := #[{ on := 0, ground := Go.Ground.data }], guard := none }) (v := ?vt2) rfl (by kernel_rfl) (by kernel_rfl) (by kernel_rfl) (fun _ _ _ h => h) (Or.inl ⟨by rfl, ?ht2⟩) hHeld ?_
              case ht2 => intro w hSw; (obtain ⟨z1, z2, z3, z4⟩ := hSw; try dsimp only at z1 z2 z3 z4); go_simp; try with_reducible rfl
              simp only [Act.put, List.setIfInBounds_toArray, List.set_cons_zero, List.set_cons_succ]
              refine wpAnyH_take (i := 2) (oi := { dst := some 53, op := Go.Op.load 109 (Go.Operand.tmp 12), type := 109, pos := "boiler.go:42", after := #[], guard := none }) (v := ?vt3) rfl (by kernel_rfl) (by kernel_rfl) (by kernel_rfl) (fun _ _ _ h => h) (Or.inl ⟨by rfl, ?ht3⟩) hHeld ?_
              case ht3 => intro w hSw; (obtain ⟨z1, z2, z3, z4⟩ := hSw; try dsimp only at z1 z2 z3 z4); go_simp; try with_reducible rfl
              simp only [Act.put, List.setIfInBounds_toArray, List.set_cons_zero, List.set_cons_succ]
              refine wpAnyH_take (i := 3) (oi := { dst := some 54, op := Go.Op.move (Go.Operand.tmp 4), type := 37, pos := "boiler.go:42", after := #[], guard := none }) (v := ?vt4) rfl (by kernel_rfl) (by kernel_rfl) (by kernel_rfl) (fun _ _ _ h => h) (Or.inl ⟨by rfl, ?ht4⟩) hHeld ?_
              case ht4 => intro w hSw; (obtain ⟨z1, z2, z3, z4⟩ := hSw; try dsimp only at z1 z2 z3 z4); go_simp; try with_reducible rfl
              simp only [Act.put, List.setIfInBounds_toArray, List.set_cons_zero, List.set_cons_succ]
              refine wpAnyH_take (i := 4) (oi := { dst := some 55, op := Go.Op.move (Go.Operand.tmp 17), type := 3, pos := "boiler.go:42", after := #[], guard := none }) (v := ?vt5) rfl (by kernel_rfl) (by kernel_rfl) (by kernel_rfl) (fun _ _ _ h => h) (Or.inl ⟨by rfl, ?ht5⟩) hHeld ?_
              case ht5 => intro w hSw; (obtain ⟨z1, z2, z3, z4⟩ := hSw; try dsimp only at z1 z2 z3 z4); go_simp; try with_reducible rfl
              simp only [Act.put, List.setIfInBounds_toArray, List.set_cons_zero, List.set_cons_succ]
              refine wpAnyH_take (i := 5) (oi := { dst := some 56, op := Go.Op.slice 37 (Go.Operand.tmp 54) none (some (Go.Operand.tmp 55)) none, type := 37, pos := "boiler.go:42", after := #[{ on := 3, ground := Go.Ground.data }, { on := 4, ground := Go.Ground.data }], guard := none }) (v := ?vt6) rfl (by kernel_rfl) (by kernel_rfl) (by kernel_rfl) (fun _ _ _ h => h) (Or.inl ⟨by rfl, ?ht6⟩) hHeld ?_
              case ht6 => intro w hSw; (obtain ⟨z1, z2, z3, z4⟩ := hSw; try dsimp only at z1 z2 z3 z4); go_simp; try with_reducible rfl
              simp only [Act.put, List.setIfInBounds_toArray, List.set_cons_zero, List.set_cons_succ]
              refine wpAnyH_ready (rs := [6]) (by kernel_rfl) (by simp) ?_
              refine AllReadyH.cons rfl (fun K hK => ?_) AllReadyH.nil
              go_simp
              refine (CALL.out _ (Below.refl _ _).drew).mono ?_
              rintro e w3 ⟨rfl, hb3⟩
              have hb3' : Below wr.heap.size wr w3 := (Below.refl _ _).drew.trans hb3
              have K2 := Lib.hid (K0.out.below hb3' K0.out.lt)
              have HB2 := Lib.hid (HB.out.trans (hb3'.mono HB.out.size))
              have hc3 : w3.cell? (ad.add k) = some (.int .i64 x) := (hb3'.cell (p := ad.add k) (by rw [block_of_add]; have := World.block_lt_of_cell? wr (ad.add k) c1; rwa [block_of_add] at this)).trans c1
              clear hb3 hb3'
              refine hK.out _ _ ?_ (fun hH7 => ?_)
              · exact ⟨(K2.out.cell 0).trans rfl, (K2.out.cell 1).trans rfl, (K2.out.cell 2).trans rfl, (K2.out.cell 3).trans rfl⟩
              clear hK K
              refine wpAnyH_take (i := 7) (oi := { dst := some 58, op := Go.Op.binOp Go.BinOp.lss 111 (Go.Operand.tmp 52) (Go.Operand.tmp 57) 111, type := 4, pos := "boiler.go:42", after := #[{ on := 1, ground := Go.Ground.data }, { on := 6, ground := Go.Ground.data }], guard := none }) (v := ?vt8) rfl (by kernel_rfl) (by kernel_rfl) (by kernel_rfl) (fun _ _ _ h => h) (Or.inl ⟨by rfl, ?ht8⟩) hH7 ?_
              case ht8 => intro w hSw; (obtain ⟨z1, z2, z3, z4⟩ := hSw; try dsimp only at z1 z2 z3 z4); go_simp; try with_reducible rfl
              simp only [Act.put, List.setIfInBounds_toArray, List.set_cons_zero, List.set_cons_succ]
              refine wpAnyH_done (by kernel_rfl) ?_ _
              --1>
              go_wp2
              go_ret2
              rw [HE.out]
              exact ⟨rfl, HB2.out⟩
            · have HVN : Hid (∀ j, j < k + 1 → bad2 p' b' st rs l j = false) := Lib.hid (fun j hj => by
                rcases Nat.lt_or_ge j k with h | h
                · exact HV.out j h
                · have : j = k := by omega
                  subst this; rw [HBAD.out]; simpa using hlx)
              --<2
              go_wp2_with fail
              refine wp_region_held_drew (S := fun w' => w'.cell? ⟨w.heap.size, 0, none⟩ = some (.int .i64 p') ∧ w'.cell? ⟨w.heap.size, 1, none⟩ = some (.int .i64 b') ∧ w'.cell? ⟨w.heap.size, 2, none⟩ = some (.int .i64 st) ∧ w'.cell? ⟨w.heap.size, 3, none⟩ = some (.int .i64 rs)) (by kernel_rfl) ⟨(K0.out.cell 0).trans rfl, (K0.out.cell 1).trans rfl, (K0.out.cell 2).trans rfl, (K0.out.cell 3).trans rfl⟩ (fun hHeld => ?_)
              refine wpAnyH_take (i := 0) (oi := { dst := some 51, op := Go.Op.move (Go.Operand.tmp 18), type := 2, pos := "boiler.go:42", after := #[], guard := none }) (v := ?vt101) rfl (by kernel_rfl) (by kernel_rfl) (by kernel_rfl) (fun _ _ _ h => h) (Or.inl ⟨by rfl, ?ht101⟩) hHeld ?_
              case ht101 => intro w hSw; (obtain ⟨z1, z2, z3, z4⟩ := hSw; try dsimp only at z1 z2 z3 z4); go_simp; try with_reducible rfl
              simp only [Act.put, List.setIfInBounds_toArray, List.set_cons_zero, List.set_cons_succ]
              refine wpAnyH_take (i := 1) (oi := { dst := some 52, op := Go.Op.convert 2 111 (Go.Operand.tmp 51), type := 111, pos := "boiler.go:42", after := #[{ on := 0, ground := Go.Ground.data }], guard := none }) (v := ?vt102) rfl (by kernel_rfl) (by kernel_rfl) (by kernel_rfl) (fun _ _ _ h => h) (Or.inl ⟨by rfl, ?ht102⟩) hHeld ?_
              case ht102 => intro w hSw; (obtain ⟨z1, z2, z3, z4⟩ := hSw; try dsimp only at z1 z2 z3 z4); go_simp; try with_reducible rfl
              simp only [Act.put, List.setIfInBounds_toArray, List.set_cons_zero, List.set_cons_succ]
              refine wpAnyH_take (i := 2) (oi := { dst := some 53, op := Go.Op.load 109 (Go.Operand.tmp 12), type := 109, pos := "boiler.go:42", after := #[], guard := none }) (v := ?vt103) rfl (by kernel_rfl) (by kernel_rfl) (by kernel_rfl) (fun _ _ _ h => h) (Or.inl ⟨by rfl, ?ht103⟩) hHeld ?_
              case ht103 => intro w hSw; (obtain ⟨z1, z2, z3, z4⟩ := hSw; try dsimp only at z1 z2 z3 z4); go_simp; try with_reducible rfl
              simp only [Act.put, List.setIfInBounds_toArray, List.set_cons_zero, List.set_cons_succ]
              refine wpAnyH_take (i := 3) (oi := { dst := some 54, op := Go.Op.move (Go.Operand.tmp 4), type := 37, pos := "boiler.go:42", after := #[], guard := none }) (v := ?vt104) rfl (by kernel_rfl) (by kernel_rfl) (by kernel_rfl) (fun _ _ _ h => h) (Or.inl ⟨by rfl, ?ht104⟩) hHeld ?_
              case ht104 => intro w hSw; (obtain ⟨z1, z2, z3, z4⟩ := hSw; try dsimp only at z1 z2 z3 z4); go_simp; try with_reducible rfl
              simp only [Act.put, List.setIfInBounds_toArray, List.set_cons_zero, List.set_cons_succ]
              refine wpAnyH_take (i := 4) (oi := { dst := some 55, op := Go.Op.move (Go.Operand.tmp 17), type := 3, pos := "boiler.go:42", after := #[], guard := none }) (v := ?vt105) rfl (by kernel_rfl) (by kernel_rfl) (by kernel_rfl) (fun _ _ _ h => h) (Or.inl ⟨by rfl, ?ht105⟩) hHeld ?_
              case ht105 => intro w hSw; (obtain ⟨z1, z2, z3, z4⟩ := hSw; try dsimp only at z1 z2 z3 z4); go_simp; try with_reducible rfl
              simp only [Act.put, List.setIfInBounds_toArray, List.set_cons_zero, List.set_cons_succ]
              refine wpAnyH_take (i := 5) (oi := { dst := some 56, op := Go.Op.slice 37 (Go.Operand.tmp 54) none (some (Go.Operand.tmp 55)) none, type := 37, pos := "boiler.go:42", after := #[{ on := 3, ground := Go.Ground.data }, { on := 4, ground := Go.Ground.data }], guard := none }) (v := ?vt106) rfl (by kernel_rfl) (by kernel_rfl) (by kernel_rfl) (fun _ _ _ h => h) (Or.inl ⟨by rfl, ?ht106⟩) hHeld ?_
              case ht106 => intro w hSw; (obtain ⟨z1, z2, z3, z4⟩ := hSw; try dsimp only at z1 z2 z3 z4); go_simp; try with_reducible rfl
              simp only [Act.put, List.setIfInBounds_toArray, List.set_cons_zero, List.set_cons_succ]
              refine wpAnyH_ready (rs := [6]) (by kernel_rfl) (by simp) ?_
              refine AllReadyH.cons rfl (fun K hK => ?_) AllReadyH.nil
              go_simp
              refine (CALL.out _ (Below.refl _ _).drew).mono ?_
              rintro e w3 ⟨rfl, hb3⟩
              have hb3' : Below wr.heap.size wr w3 := (Below.refl _ _).drew.trans hb3
              have K2 := Lib.hid (K0.out.below hb3' K0.out.lt)
              have HB2 := Lib.hid (HB.out.trans (hb3'.mono HB.out.size))
              have hc3 : w3.cell? (ad.add k) = some (.int .i64 x) := (hb3'.cell (p := ad.add k) (by rw [block_of_add]; have := World.block_lt_of_cell? wr (ad.add k) c1; rwa [block_of_add] at this)).trans c1
              clear hb3 hb3'
              refine hK.out _ _ ?_ (fun hH107 => ?_)
              · exact ⟨(K2.out.cell 0).trans rfl, (K2.out.cell 1).trans rfl, (K2.out.cell 2).trans rfl, (K2.out.cell 3).trans rfl⟩
              clear hK K
              refine wpAnyH_take (i := 7) (oi := { dst := some 58, op := Go.Op.binOp Go.BinOp.lss 111 (Go.Operand.tmp 52) (Go.Operand.tmp 57) 111, type := 4, pos := "boiler.go:42", after := #[{ on := 1, ground := Go.Ground.data }, { on := 6, ground := Go.Ground.data }], guard := none }) (v := ?vt108) rfl (by kernel_rfl) (by kernel_rfl) (by kernel_rfl) (fun _ _ _ h => h) (Or.inl ⟨by rfl, ?ht108⟩) hH107 ?_
              case ht108 => intro w hSw; (obtain ⟨z1, z2, z3, z4⟩ := hSw; try dsimp only at z1 z2 z3 z4); go_simp; try with_reducible rfl
              simp only [Act.put, List.setIfInBounds_toArray, List.set_cons_zero, List.set_cons_succ]
              refine wpAnyH_done (by kernel_rfl) ?_ _
              --2>
              go_wp2
              go_roundw
              case rel => exact ⟨k + 1, by omega, by go_num, HVN, HB2, K2⟩
              case measure => simp [intOf]; omega
          · have HE := Lib.hid (HC3.out HALL.out (fun j hj => HV.out j (by have := HN.out; omega)))
            go_wp2
            go_ret2
            rw [HE.out]
            exact ⟨by rw [← HN.out]; rfl, HB.out⟩
  · have HR : Hid (csR p b st rs l = (0, er)) := Lib.hid (by rw [csR_0 (by rw [her']; exact hz), her'])
    have hz' : (er != 0) = true := by rw [bne_iff_ne]; exact hz
    have hz'' : (er == 0) = false := beq_eq_false_iff_ne.2 hz
    clear h0 hB hi64 her her'
    go_enter Try.func28, Try.ntmps28
    go_wp2_with fail
    refine (checkHouse_any _ _ _ _ _ _).mono ?_
    rintro e w1 ⟨rfl, hb1⟩
    rw [HER.out]
    go_wp2
    go_ret2
    rw [HR.out]
    exact ⟨rfl, (below_a _ _).trans (hb1.mono (by simp))⟩
end Go.Proofs.Ytomncopeekegoaa
