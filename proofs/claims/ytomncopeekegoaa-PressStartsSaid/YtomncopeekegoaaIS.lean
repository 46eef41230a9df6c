/-
  The document's CheckStarts.
-/
import Derived.Test.YtomncopeekegoaaIP
import Derived.Test.YtomncopeekegoaaIM
import Derived.BigQuiet
namespace Go.Proofs.Ytomncopeekegoaa
open Go.RowKit

theorem prv_nonneg {l : List Int} : ∀ k, (∀ j, j < k → bad1 l j = false) → 0 ≤ prv l k
  | 0, _ => by simp [prv]
  | k + 1, h => by
    have h1 := prv_nonneg k (fun j hj => h j (by omega))
    have h2 := h k (by omega)
    unfold bad1 at h2
    simp only [decide_eq_false_iff_not] at h2
    have e : prv l (k + 1) = l.getD k 0 := by unfold prv; rw [if_neg (by omega), Nat.add_sub_cancel]
    rw [e]
    omega
theorem getD_in {l : List Int} {i : Nat} (h : i < l.length) : l.getD i 0 = l[i] := by rw [List.getD_eq_getElem?_getD, List.getElem?_eq_getElem h]; rfl

set_option maxRecDepth 100000 in
set_option maxHeartbeats 16000000 in
theorem refCheckStarts_any (B : Nat) (A : Option Addr) (n c : Nat) (l : List Int) (p b st rs : Int) (w : World) (h0 : LI w B A n l) (hB : B ≤ w.heap.size) (hn : n ≤ 9223372036854775807) (hnc : n ≤ c) (hi64 : ∀ x ∈ l, x ≤ 9223372036854775807) :
    Calls Try.prog 29 #[.int .i64 p, .int .i64 b, .int .i64 st, .int .i64 rs, .slice A n c] w fun e w' =>
      e = .returned (.tuple #[.int .i64 (csR p b st rs l).1, .int .i64 (csR p b st rs l).2]) ∧ Below w.heap.size w w' := by
  have H := Lib.hid (h0.more hB)
  have HN := Lib.hid h0.1
  have HI := Lib.hid hi64
  obtain ⟨er, her⟩ : ∃ er, ckH p b st rs (n : Int) = er := ⟨_, rfl⟩
  have HER := Lib.hid her
  have her' : ckH p b st rs (l.length : Int) = er := by rw [← h0.1]; exact her
  by_cases hz : er = 0
  · subst hz
    obtain ⟨hp, hb, hst, hrs, hnn⟩ := ckH_0.1 her
    obtain ⟨p', rfl⟩ : ∃ x : Nat, p = x := ⟨p.toNat, by omega⟩
    obtain ⟨b', rfl⟩ : ∃ x : Nat, b = x := ⟨b.toNat, by omega⟩
    have hp1 : 1 ≤ p' := by omega
    have hb1 : 1 ≤ b' := by omega
    have hn1 : n ≤ 1000 := by omega
    have HC1 := Lib.hid (fun (i : Nat) (h1 : i < l.length) h2 h3 => csR_1 (i := i) her' h1 h2 h3)
    have HC2 := Lib.hid (fun (i : Nat) h0 (h1 : i < l.length) h2 h3 => csR_2 (i := i) her' h0 h1 h2 h3)
    have HC3 := Lib.hid (fun h0 h1 => csR_3 her' h0 h1)
    obtain ⟨R, hR⟩ : ∃ R, csR p' b' st rs l = R := ⟨_, rfl⟩
    rw [hR] at HC1 HC2 HC3
    rw [hR]
    clear h0 hB hi64 her her' hR hp hb hnn
    go_enter Try.func29, Try.ntmps29
    go_wp2_with fail
    refine (boiler_any _ _ _ _ _ _).mono ?_
    rintro e w1 ⟨rfl, rfl⟩
    rw [HER.out]
    go_wp2
    go_loopw [13] (fun z wr => ∃ k : Nat, k ≤ n ∧ z = .int .i64 k ∧ Hid (∀ j, j < k → bad1 l j = false) ∧ Hid (Below w.heap.size w wr)) (fun z _ => n - (intOf z).toNat)
    case atStart => exact ⟨0, Nat.zero_le _, rfl, Lib.hid (fun j hj => absurd hj (by omega)), Lib.hid (Below.refl _ _)⟩
    case round =>
      obtain ⟨k, hk, rfl, HV, HB⟩ := hrel
      by_cases hlt : k < n
      · have hkl : k < l.length := by have := HN.out; omega
        have hLI := H.out.below HB.out (Nat.le_refl _)
        obtain ⟨ad, hA, hbl, c1⟩ := hLI.at_ hkl
        have hpv := prv_nonneg k HV.out
        have hbad : bad1 l k = decide (l.getD k 0 < prv l k) := rfl
        rw [getD_in hkl] at hbad
        have HC1k := Lib.hid (HC1.out k hkl)
        obtain ⟨x, hx⟩ : ∃ x, l[k] = x := ⟨_, rfl⟩
        rw [hx] at c1 hbad
        obtain rfl := hA
        have g1 : (k : Int) < (n : Int) := by omega
        have e2 : IntKind.i64.wrap ((k : Int) + 1) = (k : Int) + 1 := IntWalk.i64_in _ (by omega)
        have HSTEP : Hid (bad1 l k = false → ∀ j, j < k + 1 → bad1 l j = false) := Lib.hid (fun h0 j hj => by
          rcases Nat.lt_or_ge j k with h | h
          · exact HV.out j h
          · have : j = k := by omega
            subst this; exact h0)
        by_cases hneg : x < 0
        · have HE := Lib.hid (HC1k.out (by rw [hbad]; simp; omega) HV.out)
          have q1 : decide (x < 0) = true := by simpa using hneg
          clear hx hbl hLI hbad hpv
          go_wp2_with fail
          go_quiet (fail)
          go_wp2
          go_ret2
          rw [HE.out]
          exact ⟨rfl, below_drewN_ HB.out _⟩
        · have q1 : decide (x < 0) = false := by simpa using hneg
          by_cases hk0 : k = 0
          · subst hk0
            have HVN := Lib.hid (HSTEP.out (by rw [hbad]; simp [prv]; omega))
            have c1 : wr.cell? ad = some (.int .i64 x) := by simpa [Addr.add] using c1
            clear hx hbl hLI hbad hpv
            go_wp2_with fail
            go_quiet (fail)
            go_wp2
            go_roundw
            case rel => exact ⟨1, by omega, rfl, HVN, Lib.hid (below_drewN_ HB.out _)⟩
            case measure => simp [intOf]; omega
          · have hkl1 : k - 1 < l.length := by omega
            obtain ⟨ad', hA', -, c2⟩ := hLI.at_ hkl1
            obtain rfl := Option.some.inj hA'
            have hprv : prv l k = l[k - 1] := by unfold prv; rw [if_neg hk0, getD_in hkl1]
            obtain ⟨y, hy⟩ : ∃ y, l[k - 1] = y := ⟨_, rfl⟩
            rw [hy] at c2 hprv
            rw [hprv] at hbad
            obtain ⟨k1, hk1⟩ : ∃ k1, k - 1 = k1 := ⟨_, rfl⟩
            rw [hk1] at c2
            have e3 : IntKind.i64.wrap ((k : Int) - 1) = (k1 : Int) := by rw [show (k : Int) - 1 = (k1 : Int) by omega]; exact IntWalk.i64_in _ (by omega)
            have g2 : (0 : Int) < (k : Int) := by omega
            have g2' : decide ((0 : Int) < (k : Int)) = true := decide_eq_true g2
            have g3 : (k1 : Int) < (n : Int) := by omega
            have g4 : 0 < k := by omega
            have g5 : decide (0 < k) = true := decide_eq_true g4
            clear hx hbl hLI hpv hy hprv hk1 hk0
            by_cases hxy : x < y
            · have HE := Lib.hid (HC1k.out (by rw [hbad]; simpa using hxy) HV.out)
              have q2 : decide (x < y) = true := by simpa using hxy
              clear hbad
              go_wp2_with fail
              go_quiet (fail)
              go_wp2
              go_ret2
              rw [HE.out]
              exact ⟨rfl, below_drewN_ HB.out _⟩
            · have HVN := Lib.hid (HSTEP.out (by rw [hbad]; simpa using hxy))
              have q2 : decide (x < y) = false := by simpa using hxy
              clear hbad
              go_wp2_with fail
              go_quiet (fail)
              go_wp2
              go_roundw
              case rel => exact ⟨k + 1, by omega, by go_num, HVN, Lib.hid (below_drewN_ HB.out _)⟩
              case measure => simp [intOf]; omega
      · have hall : ∀ j, j < l.length → bad1 l j = false := fun j hj => HV.out j (by have := HN.out; omega)
        have HALL := Lib.hid hall
        have HSR := Lib.hid (Srt.of hall)
        have hs0 := HB.out.size
        clear hall HV HC1
        go_wp2
        go_loopw [14] (fun z wq => ∃ k : Nat, k ≤ n ∧ z = .int .i64 k ∧ Hid (∀ j, j < k → bad2 p' b' st rs l j = false) ∧ Hid (Below w.heap.size w wq)) (fun z _ => n - (intOf z).toNat)
        case atStart => exact ⟨0, Nat.zero_le _, rfl, Lib.hid (fun j hj => absurd hj (by omega)), HB⟩
        case round =>
          rename_i k0 hk0 hlt0
          clear HB
          obtain ⟨k, hk, rfl, HV, HB⟩ := hrel
          by_cases hlt : k < n
          · have hkl : k < l.length := by have := HN.out; omega
            have hLI := H.out.below HB.out (Nat.le_refl _)
            obtain ⟨ad, hA, hbl, c1⟩ := hLI.at_ hkl
            have hbad : bad2 p' b' st rs l k = decide (l.getD k 0 < ear p' b' st rs (l.take k)) := rfl
            rw [getD_in hkl] at hbad
            have hx0 : 0 ≤ l[k] ∧ l[k] ≤ 9223372036854775807 := ⟨HSR.out.nonneg _ (List.getElem_mem hkl), HI.out _ (List.getElem_mem hkl)⟩
            have HLT := Lib.hid (hLI.take (k + 1) hlt)
            have CALL := Lib.hid (fun (L : Int) (W : World) (hb : Below w.heap.size w W) => busy_any w.heap.size A (k + 1) c (l.take (k + 1)) l[k] L W ((H.out.below hb (Nat.le_refl _)).take (k + 1) hlt) (by omega) (fun x hx => ⟨HSR.out.nonneg x (List.mem_of_mem_take hx), HI.out x (List.mem_of_mem_take hx)⟩) hx0)
            have hbt1 := bsy_take hkl l[k] st
            have hbt2 := bsy_take hkl l[k] (st + rs)
            rw [if_pos (by omega)] at hbt1 hbt2
            have hfr := free_iff (p := p') (b := b') (st := st) (rs := rs) (t := l[k]) (HSR.out.take k) hp1 hb1 hx0.1
            have hsl := fun W => nums_to A (k + 1) n c (by omega) W
            have HC2k := Lib.hid (HC2.out k HALL.out hkl)
            obtain ⟨x, hx⟩ : ∃ x, l[k] = x := ⟨_, rfl⟩
            rw [hx] at c1 hbad hx0 CALL hbt1 hbt2 hfr
            have hy1le := bsy_le (l.take k) x st
            have hy2le := bsy_le (l.take k) x (st + rs)
            rw [List.length_take] at hy1le hy2le
            obtain ⟨y1, hy1⟩ : ∃ y, bsy (l.take k) x st = y := ⟨_, rfl⟩
            obtain ⟨y2, hy2⟩ : ∃ y, bsy (l.take k) x (st + rs) = y := ⟨_, rfl⟩
            rw [hy1] at hbt1 hfr hy1le
            rw [hy2] at hbt2 hfr hy2le
            obtain ⟨Y1, hY1⟩ : ∃ y, y1 + 1 = y := ⟨_, rfl⟩
            obtain ⟨Y2, hY2⟩ : ∃ y, y2 + 1 = y := ⟨_, rfl⟩
            rw [hY1] at hbt1
            rw [hY2] at hbt2
            have HY1 := Lib.hid hbt1
            have HY2 := Lib.hid hbt2
            obtain ⟨q, hq⟩ : ∃ q, ear p' b' st rs (l.take k) = q := ⟨_, rfl⟩
            rw [hq] at hbad hfr
            have HBAD := Lib.hid hbad
            have HFR := Lib.hid hfr
            obtain rfl := hA
            have g1 : (k : Int) < (n : Int) := by omega
            have e2 : IntKind.i64.wrap ((k : Int) + 1) = (k : Int) + 1 := IntWalk.i64_in _ (by omega)
            have e3 : IntKind.i64.wrap (st + rs) = st + rs := IntWalk.i64_in _ (by omega)
            have HSTEP : Hid (bad2 p' b' st rs l k = false → ∀ j, j < k + 1 → bad2 p' b' st rs l j = false) := Lib.hid (fun h0 j hj => by
              rcases Nat.lt_or_ge j k with h | h
              · exact HV.out j h
              · have : j = k := by omega
                subst this; exact h0)
            have s1 : (0 : Int) ≤ (k : Int) + 1 := by omega
            have s2 : (k : Int) + 1 ≤ (c : Int) := by omega
            have HYY := Lib.hid (And.intro hY1 hY2)
            clear hx hq hbl hbad hLI hfr hbt1 hbt2 hy1 hy2 hY1 hY2
            by_cases z1 : b' < Y1
            · have HE := Lib.hid (HC2k.out (by show bad2 p' b' st rs l k = true; rw [HBAD.out]; have := HFR.out; have := HYY.out; simp; omega) HV.out)
              have g2 : (b' : Int) < (Y1 : Int) := by omega
              have g3 : decide (b' < Y1) = true := by simpa using z1
              have g3' : decide ((b' : Int) < (Y1 : Int)) = true := by simpa using z1
              --<1
              go_wp2_with fail
              refine wp_region_held_drew (S := fun w' => w'.cell? (ad.add k) = some (.int .i64 x)) (by kernel_rfl) c1 (fun hHeld => ?_)
              refine wpAnyH_take (i := 0) (oi := { dst := some 59, op := Go.Op.move (Go.Operand.tmp 4), type := 37, pos := "ref.go:318", after := #[], guard := none }) (v := ?vt1) rfl (by kernel_rfl) (by kernel_rfl) (by kernel_rfl) (fun _ _ _ h => h) (Or.inl ⟨by rfl, ?ht1⟩) hHeld ?_
              case ht1 => intro w hSw; (try dsimp only at hSw); go_simp; try with_reducible rfl
              simp only [Act.put, List.setIfInBounds_toArray, List.set_cons_zero, List.set_cons_succ]
              refine wpAnyH_take (i := 1) (oi := { dst := some 60, op := Go.Op.move (Go.Operand.tmp 14), type := 3, pos := "ref.go:318", after := #[], guard := none }) (v := ?vt2) rfl (by kernel_rfl) (by kernel_rfl) (by kernel_rfl) (fun _ _ _ h => h) (Or.inl ⟨by rfl, ?ht2⟩) hHeld ?_
              case ht2 => intro w hSw; (try dsimp only at hSw); go_simp; try with_reducible rfl
              simp only [Act.put, List.setIfInBounds_toArray, List.set_cons_zero, List.set_cons_succ]
              refine wpAnyH_take (i := 2) (oi := { dst := some 61, op := Go.Op.binOp Go.BinOp.add 3 (Go.Operand.tmp 60) (Go.Operand.const (Go.Value.int Go.IntKind.i64 1)) 3, type := 3, pos := "ref.go:318", after := #[{ on := 1, ground := Go.Ground.data }], guard := none }) (v := ?vt3) rfl (by kernel_rfl) (by kernel_rfl) (by kernel_rfl) (fun _ _ _ h => h) (Or.inl ⟨by rfl, ?ht3⟩) hHeld ?_
              case ht3 => intro w hSw; (try dsimp only at hSw); go_simp; try with_reducible rfl
              simp only [Act.put, List.setIfInBounds_toArray, List.set_cons_zero, List.set_cons_succ]
              refine wpAnyH_take (i := 3) (oi := { dst := some 62, op := Go.Op.slice 37 (Go.Operand.tmp 59) none (some (Go.Operand.tmp 61)) none, type := 37, pos := "ref.go:318", after := #[{ on := 0, ground := Go.Ground.data }, { on := 2, ground := Go.Ground.data }], guard := none }) (v := ?vt4) rfl (by kernel_rfl) (by kernel_rfl) (by kernel_rfl) (fun _ _ _ h => h) (Or.inl ⟨by rfl, ?ht4⟩) hHeld ?_
              case ht4 => intro w hSw; (try dsimp only at hSw); go_simp; try with_reducible rfl
              simp only [Act.put, List.setIfInBounds_toArray, List.set_cons_zero, List.set_cons_succ]
              refine wpAnyH_take (i := 4) (oi := { dst := some 63, op := Go.Op.move (Go.Operand.tmp 4), type := 37, pos := "ref.go:318", after := #[], guard := none }) (v := ?vt5) rfl (by kernel_rfl) (by kernel_rfl) (by kernel_rfl) (fun _ _ _ h => h) (Or.inl ⟨by rfl, ?ht5⟩) hHeld ?_
              case ht5 => intro w hSw; (try dsimp only at hSw); go_simp; try with_reducible rfl
              simp only [Act.put, List.setIfInBounds_toArray, List.set_cons_zero, List.set_cons_succ]
              refine wpAnyH_take (i := 5) (oi := { dst := some 64, op := Go.Op.move (Go.Operand.tmp 14), type := 3, pos := "ref.go:318", after := #[], guard := none }) (v := ?vt6) rfl (by kernel_rfl) (by kernel_rfl) (by kernel_rfl) (fun _ _ _ h => h) (Or.inl ⟨by rfl, ?ht6⟩) hHeld ?_
              case ht6 => intro w hSw; (try dsimp only at hSw); go_simp; try with_reducible rfl
              simp only [Act.put, List.setIfInBounds_toArray, List.set_cons_zero, List.set_cons_succ]
              refine wpAnyH_take (i := 6) (oi := { dst := some 65, op := Go.Op.indexAddr 37 (Go.Operand.tmp 63) (Go.Operand.tmp 64), type := 0, pos := "ref.go:318", after := #[{ on := 4, ground := Go.Ground.data }, { on := 5, ground := Go.Ground.data }], guard := none }) (v := ?vt7) rfl (by kernel_rfl) (by kernel_rfl) (by kernel_rfl) (fun _ _ _ h => h) (Or.inl ⟨by rfl, ?ht7⟩) hHeld ?_
              case ht7 => intro w hSw; (try dsimp only at hSw); go_simp; try with_reducible rfl
              simp only [Act.put, List.setIfInBounds_toArray, List.set_cons_zero, List.set_cons_succ]
              refine wpAnyH_take (i := 7) (oi := { dst := some 66, op := Go.Op.load 2 (Go.Operand.tmp 65), type := 2, pos := "ref.go:318", after := #[{ on := 6, ground := Go.Ground.data }], guard := none }) (v := ?vt8) rfl (by kernel_rfl) (by kernel_rfl) (by kernel_rfl) (fun _ _ _ h => h) (Or.inl ⟨by rfl, ?ht8⟩) hHeld ?_
              case ht8 => intro w hSw; (try dsimp only at hSw); go_simp; try with_reducible rfl
              simp only [Act.put, List.setIfInBounds_toArray, List.set_cons_zero, List.set_cons_succ]
              refine wpAnyH_take (i := 8) (oi := { dst := some 67, op := Go.Op.move (Go.Operand.tmp 2), type := 2, pos := "ref.go:318", after := #[], guard := none }) (v := ?vt9) rfl (by kernel_rfl) (by kernel_rfl) (by kernel_rfl) (fun _ _ _ h => h) (Or.inl ⟨by rfl, ?ht9⟩) hHeld ?_
              case ht9 => intro w hSw; (try dsimp only at hSw); go_simp; try with_reducible rfl
              simp only [Act.put, List.setIfInBounds_toArray, List.set_cons_zero, List.set_cons_succ]
              refine wpAnyH_take (i := 10) (oi := { dst := some 69, op := Go.Op.move (Go.Operand.tmp 1), type := 3, pos := "ref.go:318", after := #[], guard := none }) (v := ?vt10) rfl (by kernel_rfl) (by kernel_rfl) (by kernel_rfl) (fun _ _ _ h => h) (Or.inl ⟨by rfl, ?ht10⟩) hHeld ?_
              case ht10 => intro w hSw; (try dsimp only at hSw); go_simp; try with_reducible rfl
              simp only [Act.put, List.setIfInBounds_toArray, List.set_cons_zero, List.set_cons_succ]
              refine wpAnyH_ready (rs := [9]) (by kernel_rfl) (by simp) ?_
              refine AllReadyH.cons rfl (fun K hK => ?_) AllReadyH.nil
              go_simp
              refine (CALL.out _ _ HB.out.drew).mono ?_
              rintro e w_ ⟨rfl, rfl⟩
              rw [HY1.out]
              refine hK.out _ _ ?_ (fun hH11 => ?_)
              · exact c1
              clear hK K
              refine wpAnyH_take (i := 11) (oi := { dst := some 70, op := Go.Op.binOp Go.BinOp.gtr 3 (Go.Operand.tmp 68) (Go.Operand.tmp 69) 3, type := 4, pos := "ref.go:318", after := #[{ on := 9, ground := Go.Ground.data }, { on := 10, ground := Go.Ground.data }], guard := none }) (v := ?vt12) rfl (by kernel_rfl) (by kernel_rfl) (by kernel_rfl) (fun _ _ _ h => h) (Or.inl ⟨by rfl, ?ht12⟩) hH11 ?_
              case ht12 => intro w hSw; (try dsimp only at hSw); go_simp; try with_reducible rfl
              simp only [Act.put, List.setIfInBounds_toArray, List.set_cons_zero, List.set_cons_succ]
              refine wpAnyH_take (i := 12) (oi := { dst := some 71, op := Go.Op.move (Go.Operand.tmp 70), type := 4, pos := "ref.go:318", after := #[{ on := 11, ground := Go.Ground.data }, { on := 9, ground := Go.Ground.chain }], guard := none }) (v := ?vt13) rfl (by kernel_rfl) (by kernel_rfl) (by kernel_rfl) (fun _ _ _ h => h) (Or.inl ⟨by rfl, ?ht13⟩) hH11 ?_
              case ht13 => intro w hSw; (try dsimp only at hSw); go_simp; try with_reducible rfl
              simp only [Act.put, List.setIfInBounds_toArray, List.set_cons_zero, List.set_cons_succ]
              refine wpAnyH_take (i := 13) (oi := { dst := some 72, op := Go.Op.move (Go.Operand.tmp 4), type := 37, pos := "ref.go:318", after := #[{ on := 12, ground := Go.Ground.guard }], guard := some (12, false) }) (v := undef) rfl (by kernel_rfl) (by kernel_rfl) (by kernel_rfl) (fun _ _ _ h => h) (Or.inr ⟨by rfl, rfl⟩) hH11 ?_
              simp only [Act.put, List.setIfInBounds_toArray, List.set_cons_zero, List.set_cons_succ]
              refine wpAnyH_take (i := 14) (oi := { dst := some 73, op := Go.Op.move (Go.Operand.tmp 14), type := 3, pos := "ref.go:318", after := #[{ on := 12, ground := Go.Ground.guard }], guard := some (12, false) }) (v := undef) rfl (by kernel_rfl) (by kernel_rfl) (by kernel_rfl) (fun _ _ _ h => h) (Or.inr ⟨by rfl, rfl⟩) hH11 ?_
              simp only [Act.put, List.setIfInBounds_toArray, List.set_cons_zero, List.set_cons_succ]
              refine wpAnyH_take (i := 15) (oi := { dst := some 74, op := Go.Op.binOp Go.BinOp.add 3 (Go.Operand.tmp 73) (Go.Operand.const (Go.Value.int Go.IntKind.i64 1)) 3, type := 3, pos := "ref.go:318", after := #[{ on := 14, ground := Go.Ground.data }, { on := 12, ground := Go.Ground.guard }], guard := some (12, false) }) (v := undef) rfl (by kernel_rfl) (by kernel_rfl) (by kernel_rfl) (fun _ _ _ h => h) (Or.inr ⟨by rfl, rfl⟩) hH11 ?_
              simp only [Act.put, List.setIfInBounds_toArray, List.set_cons_zero, List.set_cons_succ]
              refine wpAnyH_take (i := 16) (oi := { dst := some 75, op := Go.Op.slice 37 (Go.Operand.tmp 72) none (some (Go.Operand.tmp 74)) none, type := 37, pos := "ref.go:318", after := #[{ on := 13, ground := Go.Ground.data }, { on := 15, ground := Go.Ground.data }, { on := 12, ground := Go.Ground.guard }], guard := some (12, false) }) (v := undef) rfl (by kernel_rfl) (by kernel_rfl) (by kernel_rfl) (fun _ _ _ h => h) (Or.inr ⟨by rfl, rfl⟩) hH11 ?_
              simp only [Act.put, List.setIfInBounds_toArray, List.set_cons_zero, List.set_cons_succ]
              refine wpAnyH_take (i := 17) (oi := { dst := some 76, op := Go.Op.move (Go.Operand.tmp 4), type := 37, pos := "ref.go:318", after := #[{ on := 12, ground := Go.Ground.guard }], guard := some (12, false) }) (v := undef) rfl (by kernel_rfl) (by kernel_rfl) (by kernel_rfl) (fun _ _ _ h => h) (Or.inr ⟨by rfl, rfl⟩) hH11 ?_
              simp only [Act.put, List.setIfInBounds_toArray, List.set_cons_zero, List.set_cons_succ]
              refine wpAnyH_take (i := 18) (oi := { dst := some 77, op := Go.Op.move (Go.Operand.tmp 14), type := 3, pos := "ref.go:318", after := #[{ on := 12, ground := Go.Ground.guard }], guard := some (12, false) }) (v := undef) rfl (by kernel_rfl) (by kernel_rfl) (by kernel_rfl) (fun _ _ _ h => h) (Or.inr ⟨by rfl, rfl⟩) hH11 ?_
              simp only [Act.put, List.setIfInBounds_toArray, List.set_cons_zero, List.set_cons_succ]
              refine wpAnyH_take (i := 19) (oi := { dst := some 78, op := Go.Op.indexAddr 37 (Go.Operand.tmp 76) (Go.Operand.tmp 77), type := 0, pos := "ref.go:318", after := #[{ on := 17, ground := Go.Ground.data }, { on := 18, ground := Go.Ground.data }, { on := 12, ground := Go.Ground.guard }], guard := some (12, false) }) (v := undef) rfl (by kernel_rfl) (by kernel_rfl) (by kernel_rfl) (fun _ _ _ h => h) (Or.inr ⟨by rfl, rfl⟩) hH11 ?_
              simp only [Act.put, List.setIfInBounds_toArray, List.set_cons_zero, List.set_cons_succ]
              refine wpAnyH_take (i := 20) (oi := { dst := some 79, op := Go.Op.load 2 (Go.Operand.tmp 78), type := 2, pos := "ref.go:318", after := #[{ on := 19, ground := Go.Ground.data }, { on := 12, ground := Go.Ground.guard }], guard := some (12, false) }) (v := undef) rfl (by kernel_rfl) (by kernel_rfl) (by kernel_rfl) (fun _ _ _ h => h) (Or.inr ⟨by rfl, rfl⟩) hH11 ?_
              simp only [Act.put, List.setIfInBounds_toArray, List.set_cons_zero, List.set_cons_succ]
              refine wpAnyH_take (i := 21) (oi := { dst := some 80, op := Go.Op.move (Go.Operand.tmp 2), type := 2, pos := "ref.go:318", after := #[{ on := 12, ground := Go.Ground.guard }], guard := some (12, false) }) (v := undef) rfl (by kernel_rfl) (by kernel_rfl) (by kernel_rfl) (fun _ _ _ h => h) (Or.inr ⟨by rfl, rfl⟩) hH11 ?_
              simp only [Act.put, List.setIfInBounds_toArray, List.set_cons_zero, List.set_cons_succ]
              refine wpAnyH_take (i := 22) (oi := { dst := some 81, op := Go.Op.move (Go.Operand.tmp 3), type := 2, pos := "ref.go:318", after := #[{ on := 12, ground := Go.Ground.guard }], guard := some (12, false) }) (v := undef) rfl (by kernel_rfl) (by kernel_rfl) (by kernel_rfl) (fun _ _ _ h => h) (Or.inr ⟨by rfl, rfl⟩) hH11 ?_
              simp only [Act.put, List.setIfInBounds_toArray, List.set_cons_zero, List.set_cons_succ]
              refine wpAnyH_take (i := 23) (oi := { dst := some 82, op := Go.Op.binOp Go.BinOp.add 2 (Go.Operand.tmp 80) (Go.Operand.tmp 81) 2, type := 2, pos := "ref.go:318", after := #[{ on := 21, ground := Go.Ground.data }, { on := 22, ground := Go.Ground.data }, { on := 12, ground := Go.Ground.guard }], guard := some (12, false) }) (v := undef) rfl (by kernel_rfl) (by kernel_rfl) (by kernel_rfl) (fun _ _ _ h => h) (Or.inr ⟨by rfl, rfl⟩) hH11 ?_
              simp only [Act.put, List.setIfInBounds_toArray, List.set_cons_zero, List.set_cons_succ]
              refine wpAnyH_take (i := 24) (oi := { dst := some 83, op := Go.Op.call { callee := Go.Callee.value (Go.Operand.func 61), args := #[Go.Operand.tmp 75, Go.Operand.tmp 79, Go.Operand.tmp 82], argTypes := #[37, 2, 2] }, type := 3, pos := "ref.go:318", after := #[{ on := 16, ground := Go.Ground.data }, { on := 20, ground := Go.Ground.data }, { on := 23, ground := Go.Ground.data }, { on := 12, ground := Go.Ground.chain }, { on := 12, ground := Go.Ground.guard }], guard := some (12, false) }) (v := undef) rfl (by kernel_rfl) (by kernel_rfl) (by kernel_rfl) (fun _ _ _ h => h) (Or.inr ⟨by rfl, rfl⟩) hH11 ?_
              simp only [Act.put, List.setIfInBounds_toArray, List.set_cons_zero, List.set_cons_succ]
              refine wpAnyH_take (i := 25) (oi := { dst := some 84, op := Go.Op.move (Go.Operand.tmp 0), type := 3, pos := "ref.go:318", after := #[{ on := 12, ground := Go.Ground.guard }], guard := some (12, false) }) (v := undef) rfl (by kernel_rfl) (by kernel_rfl) (by kernel_rfl) (fun _ _ _ h => h) (Or.inr ⟨by rfl, rfl⟩) hH11 ?_
              simp only [Act.put, List.setIfInBounds_toArray, List.set_cons_zero, List.set_cons_succ]
              refine wpAnyH_take (i := 26) (oi := { dst := some 85, op := Go.Op.binOp Go.BinOp.gtr 3 (Go.Operand.tmp 83) (Go.Operand.tmp 84) 3, type := 4, pos := "ref.go:318", after := #[{ on := 24, ground := Go.Ground.data }, { on := 25, ground := Go.Ground.data }, { on := 12, ground := Go.Ground.guard }], guard := some (12, false) }) (v := undef) rfl (by kernel_rfl) (by kernel_rfl) (by kernel_rfl) (fun _ _ _ h => h) (Or.inr ⟨by rfl, rfl⟩) hH11 ?_
              simp only [Act.put, List.setIfInBounds_toArray, List.set_cons_zero, List.set_cons_succ]
              refine wpAnyH_take (i := 27) (oi := { dst := some 86, op := Go.Op.pick (Go.Operand.tmp 71) (Go.Operand.const (Go.Value.bool true)) (Go.Operand.tmp 85), type := 4, pos := "ref.go:318", after := #[{ on := 12, ground := Go.Ground.data }, { on := 26, ground := Go.Ground.data }], guard := none }) (v := ?vt28) rfl (by kernel_rfl) (by kernel_rfl) (by kernel_rfl) (fun _ _ _ h => h) (Or.inl ⟨by rfl, ?ht28⟩) hH11 ?_
              case ht28 => intro w hSw; (try dsimp only at hSw); go_simp; try with_reducible rfl
              simp only [Act.put, List.setIfInBounds_toArray, List.set_cons_zero, List.set_cons_succ]
              refine wpAnyH_done (by kernel_rfl) ?_ _
              --1>
              go_wp2
              go_ret2
              rw [HE.out]
              exact ⟨rfl, HB.out.drew⟩
            · have g2 : ¬ (b' : Int) < (Y1 : Int) := by omega
              have g3 : decide (b' < Y1) = false := by simpa using z1
              have g3' : decide ((b' : Int) < (Y1 : Int)) = false := by simpa using z1
              by_cases z2 : p' < Y2
              · have HE := Lib.hid (HC2k.out (by show bad2 p' b' st rs l k = true; rw [HBAD.out]; have := HFR.out; have := HYY.out; simp; omega) HV.out)
                have g4 : (p' : Int) < (Y2 : Int) := by omega
                have g5 : decide (p' < Y2) = true := by simpa using z2
                have g5' : decide ((p' : Int) < (Y2 : Int)) = true := by simpa using z2
                --<2
                go_wp2_with fail
                refine wp_region_held_drew (S := fun w' => w'.cell? (ad.add k) = some (.int .i64 x)) (by kernel_rfl) c1 (fun hHeld => ?_)
                refine wpAnyH_take (i := 0) (oi := { dst := some 59, op := Go.Op.move (Go.Operand.tmp 4), type := 37, pos := "ref.go:318", after := #[], guard := none }) (v := ?vt201) rfl (by kernel_rfl) (by kernel_rfl) (by kernel_rfl) (fun _ _ _ h => h) (Or.inl ⟨by rfl, ?ht201⟩) hHeld ?_
                case ht201 => intro w hSw; (try dsimp only at hSw); go_simp; try with_reducible rfl
                simp only [Act.put, List.setIfInBounds_toArray, List.set_cons_zero, List.set_cons_succ]
                refine wpAnyH_take (i := 1) (oi := { dst := some 60, op := Go.Op.move (Go.Operand.tmp 14), type := 3, pos := "ref.go:318", after := #[], guard := none }) (v := ?vt202) rfl (by kernel_rfl) (by kernel_rfl) (by kernel_rfl) (fun _ _ _ h => h) (Or.inl ⟨by rfl, ?ht202⟩) hHeld ?_
                case ht202 => intro w hSw; (try dsimp only at hSw); go_simp; try with_reducible rfl
                simp only [Act.put, List.setIfInBounds_toArray, List.set_cons_zero, List.set_cons_succ]
                refine wpAnyH_take (i := 2) (oi := { dst := some 61, op := Go.Op.binOp Go.BinOp.add 3 (Go.Operand.tmp 60) (Go.Operand.const (Go.Value.int Go.IntKind.i64 1)) 3, type := 3, pos := "ref.go:318", after := #[{ on := 1, ground := Go.Ground.data }], guard := none }) (v := ?vt203) rfl (by kernel_rfl) (by kernel_rfl) (by kernel_rfl) (fun _ _ _ h => h) (Or.inl ⟨by rfl, ?ht203⟩) hHeld ?_
                case ht203 => intro w hSw; (try dsimp only at hSw); go_simp; try with_reducible rfl
                simp only [Act.put, List.setIfInBounds_toArray, List.set_cons_zero, List.set_cons_succ]
                refine wpAnyH_take (i := 3) (oi := { dst := some 62, op := Go.Op.slice 37 (Go.Operand.tmp 59) none (some (Go.Operand.tmp 61)) none, type := 37, pos := "ref.go:318", after := #[{ on := 0, ground := Go.Ground.data }, { on := 2, ground := Go.Ground.data }], guard := none }) (v := ?vt204) rfl (by kernel_rfl) (by kernel_rfl) (by kernel_rfl) (fun _ _ _ h => h) (Or.inl ⟨by rfl, ?ht204⟩) hHeld ?_
                case ht204 => intro w hSw; (try dsimp only at hSw); go_simp; try with_reducible rfl
                simp only [Act.put, List.setIfInBounds_toArray, List.set_cons_zero, List.set_cons_succ]
                refine wpAnyH_take (i := 4) (oi := { dst := some 63, op := Go.Op.move (Go.Operand.tmp 4), type := 37, pos := "ref.go:318", after := #[], guard := none }) (v := ?vt205) rfl (by kernel_rfl) (by kernel_rfl) (by kernel_rfl) (fun _ _ _ h => h) (Or.inl ⟨by rfl, ?ht205⟩) hHeld ?_
                case ht205 => intro w hSw; (try dsimp only at hSw); go_simp; try with_reducible rfl
                simp only [Act.put, List.setIfInBounds_toArray, List.set_cons_zero, List.set_cons_succ]
                refine wpAnyH_take (i := 5) (oi := { dst := some 64, op := Go.Op.move (Go.Operand.tmp 14), type := 3, pos := "ref.go:318", after := #[], guard := none }) (v := ?vt206) rfl (by kernel_rfl) (by kernel_rfl) (by kernel_rfl) (fun _ _ _ h => h) (Or.inl ⟨by rfl, ?ht206⟩) hHeld ?_
                case ht206 => intro w hSw; (try dsimp only at hSw); go_simp; try with_reducible rfl
                simp only [Act.put, List.setIfInBounds_toArray, List.set_cons_zero, List.set_cons_succ]
                refine wpAnyH_take (i := 6) (oi := { dst := some 65, op := Go.Op.indexAddr 37 (Go.Operand.tmp 63) (Go.Operand.tmp 64), type := 0, pos := "ref.go:318", after := #[{ on := 4, ground := Go.Ground.data }, { on := 5, ground := Go.Ground.data }], guard := none }) (v := ?vt207) rfl (by kernel_rfl) (by kernel_rfl) (by kernel_rfl) (fun _ _ _ h => h) (Or.inl ⟨by rfl, ?ht207⟩) hHeld ?_
                case ht207 => intro w hSw; (try dsimp only at hSw); go_simp; try with_reducible rfl
                simp only [Act.put, List.setIfInBounds_toArray, List.set_cons_zero, List.set_cons_succ]
                refine wpAnyH_take (i := 7) (oi := { dst := some 66, op := Go.Op.load 2 (Go.Operand.tmp 65), type := 2, pos := "ref.go:318", after := #[{ on := 6, ground := Go.Ground.data }], guard := none }) (v := ?vt208) rfl (by kernel_rfl) (by kernel_rfl) (by kernel_rfl) (fun _ _ _ h => h) (Or.inl ⟨by rfl, ?ht208⟩) hHeld ?_
                case ht208 => intro w hSw; (try dsimp only at hSw); go_simp; try with_reducible rfl
                simp only [Act.put, List.setIfInBounds_toArray, List.set_cons_zero, List.set_cons_succ]
                refine wpAnyH_take (i := 8) (oi := { dst := some 67, op := Go.Op.move (Go.Operand.tmp 2), type := 2, pos := "ref.go:318", after := #[], guard := none }) (v := ?vt209) rfl (by kernel_rfl) (by kernel_rfl) (by kernel_rfl) (fun _ _ _ h => h) (Or.inl ⟨by rfl, ?ht209⟩) hHeld ?_
                case ht209 => intro w hSw; (try dsimp only at hSw); go_simp; try with_reducible rfl
                simp only [Act.put, List.setIfInBounds_toArray, List.set_cons_zero, List.set_cons_succ]
                refine wpAnyH_take (i := 10) (oi := { dst := some 69, op := Go.Op.move (Go.Operand.tmp 1), type := 3, pos := "ref.go:318", after := #[], guard := none }) (v := ?vt210) rfl (by kernel_rfl) (by kernel_rfl) (by kernel_rfl) (fun _ _ _ h => h) (Or.inl ⟨by rfl, ?ht210⟩) hHeld ?_
                case ht210 => intro w hSw; (try dsimp only at hSw); go_simp; try with_reducible rfl
                simp only [Act.put, List.setIfInBounds_toArray, List.set_cons_zero, List.set_cons_succ]
                refine wpAnyH_ready (rs := [9]) (by kernel_rfl) (by simp) ?_
                refine AllReadyH.cons rfl (fun K hK => ?_) AllReadyH.nil
                go_simp
                refine (CALL.out _ _ HB.out.drew).mono ?_
                rintro e w_ ⟨rfl, rfl⟩
                rw [HY1.out]
                refine hK.out _ _ ?_ (fun hH211 => ?_)
                · exact c1
                clear hK K
                refine wpAnyH_take (i := 11) (oi := { dst := some 70, op := Go.Op.binOp Go.BinOp.gtr 3 (Go.Operand.tmp 68) (Go.Operand.tmp 69) 3, type := 4, pos := "ref.go:318", after := #[{ on := 9, ground := Go.Ground.data }, { on := 10, ground := Go.Ground.data }], guard := none }) (v := ?vt212) rfl (by kernel_rfl) (by kernel_rfl) (by kernel_rfl) (fun _ _ _ h => h) (Or.inl ⟨by rfl, ?ht212⟩) hH211 ?_
                case ht212 => intro w hSw; (try dsimp only at hSw); go_simp; try with_reducible rfl
                simp only [Act.put, List.setIfInBounds_toArray, List.set_cons_zero, List.set_cons_succ]
                refine wpAnyH_take (i := 12) (oi := { dst := some 71, op := Go.Op.move (Go.Operand.tmp 70), type := 4, pos := "ref.go:318", after := #[{ on := 11, ground := Go.Ground.data }, { on := 9, ground := Go.Ground.chain }], guard := none }) (v := ?vt213) rfl (by kernel_rfl) (by kernel_rfl) (by kernel_rfl) (fun _ _ _ h => h) (Or.inl ⟨by rfl, ?ht213⟩) hH211 ?_
                case ht213 => intro w hSw; (try dsimp only at hSw); go_simp; try with_reducible rfl
                simp only [Act.put, List.setIfInBounds_toArray, List.set_cons_zero, List.set_cons_succ]
                refine wpAnyH_take (i := 13) (oi := { dst := some 72, op := Go.Op.move (Go.Operand.tmp 4), type := 37, pos := "ref.go:318", after := #[{ on := 12, ground := Go.Ground.guard }], guard := some (12, false) }) (v := ?vt214) rfl (by kernel_rfl) (by kernel_rfl) (by kernel_rfl) (fun _ _ _ h => h) (Or.inl ⟨by rfl, ?ht214⟩) hH211 ?_
                case ht214 => intro w hSw; (try dsimp only at hSw); go_simp; try with_reducible rfl
                simp only [Act.put, List.setIfInBounds_toArray, List.set_cons_zero, List.set_cons_succ]
                refine wpAnyH_take (i := 14) (oi := { dst := some 73, op := Go.Op.move (Go.Operand.tmp 14), type := 3, pos := "ref.go:318", after := #[{ on := 12, ground := Go.Ground.guard }], guard := some (12, false) }) (v := ?vt215) rfl (by kernel_rfl) (by kernel_rfl) (by kernel_rfl) (fun _ _ _ h => h) (Or.inl ⟨by rfl, ?ht215⟩) hH211 ?_
                case ht215 => intro w hSw; (try dsimp only at hSw); go_simp; try with_reducible rfl
                simp only [Act.put, List.setIfInBounds_toArray, List.set_cons_zero, List.set_cons_succ]
                refine wpAnyH_take (i := 15) (oi := { dst := some 74, op := Go.Op.binOp Go.BinOp.add 3 (Go.Operand.tmp 73) (Go.Operand.const (Go.Value.int Go.IntKind.i64 1)) 3, type := 3, pos := "ref.go:318", after := #[{ on := 14, ground := Go.Ground.data }, { on := 12, ground := Go.Ground.guard }], guard := some (12, false) }) (v := ?vt216) rfl (by kernel_rfl) (by kernel_rfl) (by kernel_rfl) (fun _ _ _ h => h) (Or.inl ⟨by rfl, ?ht216⟩) hH211 ?_
                case ht216 => intro w hSw; (try dsimp only at hSw); go_simp; try with_reducible rfl
                simp only [Act.put, List.setIfInBounds_toArray, List.set_cons_zero, List.set_cons_succ]
                refine wpAnyH_take (i := 16) (oi := { dst := some 75, op := Go.Op.slice 37 (Go.Operand.tmp 72) none (some (Go.Operand.tmp 74)) none, type := 37, pos := "ref.go:318", after := #[{ on := 13, ground := Go.Ground.data }, { on := 15, ground := Go.Ground.data }, { on := 12, ground := Go.Ground.guard }], guard := some (12, false) }) (v := ?vt217) rfl (by kernel_rfl) (by kernel_rfl) (by kernel_rfl) (fun _ _ _ h => h) (Or.inl ⟨by rfl, ?ht217⟩) hH211 ?_
                case ht217 => intro w hSw; (try dsimp only at hSw); go_simp; try with_reducible rfl
                simp only [Act.put, List.setIfInBounds_toArray, List.set_cons_zero, List.set_cons_succ]
                refine wpAnyH_take (i := 17) (oi := { dst := some 76, op := Go.Op.move (Go.Operand.tmp 4), type := 37, pos := "ref.go:318", after := #[{ on := 12, ground := Go.Ground.guard }], guard := some (12, false) }) (v := ?vt218) rfl (by kernel_rfl) (by kernel_rfl) (by kernel_rfl) (fun _ _ _ h => h) (Or.inl ⟨by rfl, ?ht218⟩) hH211 ?_
                case ht218 => intro w hSw; (try dsimp only at hSw); go_simp; try with_reducible rfl
                simp only [Act.put, List.setIfInBounds_toArray, List.set_cons_zero, List.set_cons_succ]
                refine wpAnyH_take (i := 18) (oi := { dst := some 77, op := Go.Op.move (Go.Operand.tmp 14), type := 3, pos := "ref.go:318", after := #[{ on := 12, ground := Go.Ground.guard }], guard := some (12, false) }) (v := ?vt219) rfl (by kernel_rfl) (by kernel_rfl) (by kernel_rfl) (fun _ _ _ h => h) (Or.inl ⟨by rfl, ?ht219⟩) hH211 ?_
                case ht219 => intro w hSw; (try dsimp only at hSw); go_simp; try with_reducible rfl
                simp only [Act.put, List.setIfInBounds_toArray, List.set_cons_zero, List.set_cons_succ]
                refine wpAnyH_take (i := 19) (oi := { dst := some 78, op := Go.Op.indexAddr 37 (Go.Operand.tmp 76) (Go.Operand.tmp 77), type := 0, pos := "ref.go:318", after := #[{ on := 17, ground := Go.Ground.data }, { on := 18, ground := Go.Ground.data }, { on := 12, ground := Go.Ground.guard }], guard := some (12, false) }) (v := ?vt220) rfl (by kernel_rfl) (by kernel_rfl) (by kernel_rfl) (fun _ _ _ h => h) (Or.inl ⟨by rfl, ?ht220⟩) hH211 ?_
                case ht220 => intro w hSw; (try dsimp only at hSw); go_simp; try with_reducible rfl
                simp only [Act.put, List.setIfInBounds_toArray, List.set_cons_zero, List.set_cons_succ]
                refine wpAnyH_take (i := 20) (oi := { dst := some 79, op := Go.Op.load 2 (Go.Operand.tmp 78), type := 2, pos := "ref.go:318", after := #[{ on := 19, ground := Go.Ground.data }, { on := 12, ground := Go.Ground.guard }], guard := some (12, false) }) (v := ?vt221) rfl (by kernel_rfl) (by kernel_rfl) (by kernel_rfl) (fun _ _ _ h => h) (Or.inl ⟨by rfl, ?ht221⟩) hH211 ?_
                case ht221 => intro w hSw; (try dsimp only at hSw); go_simp; try with_reducible rfl
                simp only [Act.put, List.setIfInBounds_toArray, List.set_cons_zero, List.set_cons_succ]
                refine wpAnyH_take (i := 21) (oi := { dst := some 80, op := Go.Op.move (Go.Operand.tmp 2), type := 2, pos := "ref.go:318", after := #[{ on := 12, ground := Go.Ground.guard }], guard := some (12, false) }) (v := ?vt222) rfl (by kernel_rfl) (by kernel_rfl) (by kernel_rfl) (fun _ _ _ h => h) (Or.inl ⟨by rfl, ?ht222⟩) hH211 ?_
                case ht222 => intro w hSw; (try dsimp only at hSw); go_simp; try with_reducible rfl
                simp only [Act.put, List.setIfInBounds_toArray, List.set_cons_zero, List.set_cons_succ]
                refine wpAnyH_take (i := 22) (oi := { dst := some 81, op := Go.Op.move (Go.Operand.tmp 3), type := 2, pos := "ref.go:318", after := #[{ on := 12, ground := Go.Ground.guard }], guard := some (12, false) }) (v := ?vt223) rfl (by kernel_rfl) (by kernel_rfl) (by kernel_rfl) (fun _ _ _ h => h) (Or.inl ⟨by rfl, ?ht223⟩) hH211 ?_
                case ht223 => intro w hSw; (try dsimp only at hSw); go_simp; try with_reducible rfl
                simp only [Act.put, List.setIfInBounds_toArray, List.set_cons_zero, List.set_cons_succ]
                refine wpAnyH_take (i := 23) (oi := { dst := some 82, op := Go.Op.binOp Go.BinOp.add 2 (Go.Operand.tmp 80) (Go.Operand.tmp 81) 2, type := 2, pos := "ref.go:318", after := #[{ on := 21, ground := Go.Ground.data }, { on := 22, ground := Go.Ground.data }, { on := 12, ground := Go.Ground.guard }], guard := some (12, false) }) (v := ?vt224) rfl (by kernel_rfl) (by kernel_rfl) (by kernel_rfl) (fun _ _ _ h => h) (Or.inl ⟨by rfl, ?ht224⟩) hH211 ?_
                case ht224 => intro w hSw; (try dsimp only at hSw); go_simp; try with_reducible rfl
                simp only [Act.put, List.setIfInBounds_toArray, List.set_cons_zero, List.set_cons_succ]
                refine wpAnyH_take (i := 25) (oi := { dst := some 84, op := Go.Op.move (Go.Operand.tmp 0), type := 3, pos := "ref.go:318", after := #[{ on := 12, ground := Go.Ground.guard }], guard := some (12, false) }) (v := ?vt225) rfl (by kernel_rfl) (by kernel_rfl) (by kernel_rfl) (fun _ _ _ h => h) (Or.inl ⟨by rfl, ?ht225⟩) hH211 ?_
                case ht225 => intro w hSw; (try dsimp only at hSw); go_simp; try with_reducible rfl
                simp only [Act.put, List.setIfInBounds_toArray, List.set_cons_zero, List.set_cons_succ]
                refine wpAnyH_ready (rs := [24]) (by kernel_rfl) (by simp) ?_
                refine AllReadyH.cons rfl (fun K hK => ?_) AllReadyH.nil
                go_simp
                refine (CALL.out _ _ HB.out.drew).mono ?_
                rintro e w_ ⟨rfl, rfl⟩
                rw [HY2.out]
                refine hK.out _ _ ?_ (fun hH226 => ?_)
                · exact c1
                clear hK K
                refine wpAnyH_take (i := 26) (oi := { dst := some 85, op := Go.Op.binOp Go.BinOp.gtr 3 (Go.Operand.tmp 83) (Go.Operand.tmp 84) 3, type := 4, pos := "ref.go:318", after := #[{ on := 24, ground := Go.Ground.data }, { on := 25, ground := Go.Ground.data }, { on := 12, ground := Go.Ground.guard }], guard := some (12, false) }) (v := ?vt227) rfl (by kernel_rfl) (by kernel_rfl) (by kernel_rfl) (fun _ _ _ h => h) (Or.inl ⟨by rfl, ?ht227⟩) hH226 ?_
                case ht227 => intro w hSw; (try dsimp only at hSw); go_simp; try with_reducible rfl
                simp only [Act.put, List.setIfInBounds_toArray, List.set_cons_zero, List.set_cons_succ]
                refine wpAnyH_take (i := 27) (oi := { dst := some 86, op := Go.Op.pick (Go.Operand.tmp 71) (Go.Operand.const (Go.Value.bool true)) (Go.Operand.tmp 85), type := 4, pos := "ref.go:318", after := #[{ on := 12, ground := Go.Ground.data }, { on := 26, ground := Go.Ground.data }], guard := none }) (v := ?vt228) rfl (by kernel_rfl) (by kernel_rfl) (by kernel_rfl) (fun _ _ _ h => h) (Or.inl ⟨by rfl, ?ht228⟩) hH226 ?_
                case ht228 => intro w hSw; (try dsimp only at hSw); go_simp; try with_reducible rfl
                simp only [Act.put, List.setIfInBounds_toArray, List.set_cons_zero, List.set_cons_succ]
                refine wpAnyH_done (by kernel_rfl) ?_ _
                --2>
                go_wp2
                go_ret2
                rw [HE.out]
                exact ⟨rfl, HB.out.drew⟩
              · have HVN := Lib.hid (HSTEP.out (by rw [HBAD.out]; have := HFR.out; have := HYY.out; simp; omega))
                have g4 : ¬ (p' : Int) < (Y2 : Int) := by omega
                have g5 : decide (p' < Y2) = false := by simpa using z2
                have g5' : decide ((p' : Int) < (Y2 : Int)) = false := by simpa using z2
                --<3
                go_wp2_with fail
                refine wp_region_held_drew (S := fun w' => w'.cell? (ad.add k) = some (.int .i64 x)) (by kernel_rfl) c1 (fun hHeld => ?_)
                refine wpAnyH_take (i := 0) (oi := { dst := some 59, op := Go.Op.move (Go.Operand.tmp 4), type := 37, pos := "ref.go:318", after := #[], guard := none }) (v := ?vt401) rfl (by kernel_rfl) (by kernel_rfl) (by kernel_rfl) (fun _ _ _ h => h) (Or.inl ⟨by rfl, ?ht401⟩) hHeld ?_
                case ht401 => intro w hSw; (try dsimp only at hSw); go_simp; try with_reducible rfl
                simp only [Act.put, List.setIfInBounds_toArray, List.set_cons_zero, List.set_cons_succ]
                refine wpAnyH_take (i := 1) (oi := { dst := some 60, op := Go.Op.move (Go.Operand.tmp 14), type := 3, pos := "ref.go:318", after := #[], guard := none }) (v := ?vt402) rfl (by kernel_rfl) (by kernel_rfl) (by kernel_rfl) (fun _ _ _ h => h) (Or.inl ⟨by rfl, ?ht402⟩) hHeld ?_
                case ht402 => intro w hSw; (try dsimp only at hSw); go_simp; try with_reducible rfl
                simp only [Act.put, List.setIfInBounds_toArray, List.set_cons_zero, List.set_cons_succ]
                refine wpAnyH_take (i := 2) (oi := { dst := some 61, op := Go.Op.binOp Go.BinOp.add 3 (Go.Operand.tmp 60) (Go.Operand.const (Go.Value.int Go.IntKind.i64 1)) 3, type := 3, pos := "ref.go:318", after := #[{ on := 1, ground := Go.Ground.data }], guard := none }) (v := ?vt403) rfl (by kernel_rfl) (by kernel_rfl) (by kernel_rfl) (fun _ _ _ h => h) (Or.inl ⟨by rfl, ?ht403⟩) hHeld ?_
                case ht403 => intro w hSw; (try dsimp only at hSw); go_simp; try with_reducible rfl
                simp only [Act.put, List.setIfInBounds_toArray, List.set_cons_zero, List.set_cons_succ]
                refine wpAnyH_take (i := 3) (oi := { dst := some 62, op := Go.Op.slice 37 (Go.Operand.tmp 59) none (some (Go.Operand.tmp 61)) none, type := 37, pos := "ref.go:318", after := #[{ on := 0, ground := Go.Ground.data }, { on := 2, ground := Go.Ground.data }], guard := none }) (v := ?vt404) rfl (by kernel_rfl) (by kernel_rfl) (by kernel_rfl) (fun _ _ _ h => h) (Or.inl ⟨by rfl, ?ht404⟩) hHeld ?_
                case ht404 => intro w hSw; (try dsimp only at hSw); go_simp; try with_reducible rfl
                simp only [Act.put, List.setIfInBounds_toArray, List.set_cons_zero, List.set_cons_succ]
                refine wpAnyH_take (i := 4) (oi := { dst := some 63, op := Go.Op.move (Go.Operand.tmp 4), type := 37, pos := "ref.go:318", after := #[], guard := none }) (v := ?vt405) rfl (by kernel_rfl) (by kernel_rfl) (by kernel_rfl) (fun _ _ _ h => h) (Or.inl ⟨by rfl, ?ht405⟩) hHeld ?_
                case ht405 => intro w hSw; (try dsimp only at hSw); go_simp; try with_reducible rfl
                simp only [Act.put, List.setIfInBounds_toArray, List.set_cons_zero, List.set_cons_succ]
                refine wpAnyH_take (i := 5) (oi := { dst := some 64, op := Go.Op.move (Go.Operand.tmp 14), type := 3, pos := "ref.go:318", after := #[], guard := none }) (v := ?vt406) rfl (by kernel_rfl) (by kernel_rfl) (by kernel_rfl) (fun _ _ _ h => h) (Or.inl ⟨by rfl, ?ht406⟩) hHeld ?_
                case ht406 => intro w hSw; (try dsimp only at hSw); go_simp; try with_reducible rfl
                simp only [Act.put, List.setIfInBounds_toArray, List.set_cons_zero, List.set_cons_succ]
                refine wpAnyH_take (i := 6) (oi := { dst := some 65, op := Go.Op.indexAddr 37 (Go.Operand.tmp 63) (Go.Operand.tmp 64), type := 0, pos := "ref.go:318", after := #[{ on := 4, ground := Go.Ground.data }, { on := 5, ground := Go.Ground.data }], guard := none }) (v := ?vt407) rfl (by kernel_rfl) (by kernel_rfl) (by kernel_rfl) (fun _ _ _ h => h) (Or.inl ⟨by rfl, ?ht407⟩) hHeld ?_
                case ht407 => intro w hSw; (try dsimp only at hSw); go_simp; try with_reducible rfl
                simp only [Act.put, List.setIfInBounds_toArray, List.set_cons_zero, List.set_cons_succ]
                refine wpAnyH_take (i := 7) (oi := { dst := some 66, op := Go.Op.load 2 (Go.Operand.tmp 65), type := 2, pos := "ref.go:318", after := #[{ on := 6, ground := Go.Ground.data }], guard := none }) (v := ?vt408) rfl (by kernel_rfl) (by kernel_rfl) (by kernel_rfl) (fun _ _ _ h => h) (Or.inl ⟨by rfl, ?ht408⟩) hHeld ?_
                case ht408 => intro w hSw; (try dsimp only at hSw); go_simp; try with_reducible rfl
                simp only [Act.put, List.setIfInBounds_toArray, List.set_cons_zero, List.set_cons_succ]
                refine wpAnyH_take (i := 8) (oi := { dst := some 67, op := Go.Op.move (Go.Operand.tmp 2), type := 2, pos := "ref.go:318", after := #[], guard := none }) (v := ?vt409) rfl (by kernel_rfl) (by kernel_rfl) (by kernel_rfl) (fun _ _ _ h => h) (Or.inl ⟨by rfl, ?ht409⟩) hHeld ?_
                case ht409 => intro w hSw; (try dsimp only at hSw); go_simp; try with_reducible rfl
                simp only [Act.put, List.setIfInBounds_toArray, List.set_cons_zero, List.set_cons_succ]
                refine wpAnyH_take (i := 10) (oi := { dst := some 69, op := Go.Op.move (Go.Operand.tmp 1), type := 3, pos := "ref.go:318", after := #[], guard := none }) (v := ?vt410) rfl (by kernel_rfl) (by kernel_rfl) (by kernel_rfl) (fun _ _ _ h => h) (Or.inl ⟨by rfl, ?ht410⟩) hHeld ?_
                case ht410 => intro w hSw; (try dsimp only at hSw); go_simp; try with_reducible rfl
                simp only [Act.put, List.setIfInBounds_toArray, List.set_cons_zero, List.set_cons_succ]
                refine wpAnyH_ready (rs := [9]) (by kernel_rfl) (by simp) ?_
                refine AllReadyH.cons rfl (fun K hK => ?_) AllReadyH.nil
                go_simp
                refine (CALL.out _ _ HB.out.drew).mono ?_
                rintro e w_ ⟨rfl, rfl⟩
                rw [HY1.out]
                refine hK.out _ _ ?_ (fun hH411 => ?_)
                · exact c1
                clear hK K
                refine wpAnyH_take (i := 11) (oi := { dst := some 70, op := Go.Op.binOp Go.BinOp.gtr 3 (Go.Operand.tmp 68) (Go.Operand.tmp 69) 3, type := 4, pos := "ref.go:318", after := #[{ on := 9, ground := Go.Ground.data }, { on := 10, ground := Go.Ground.data }], guard := none }) (v := ?vt412) rfl (by kernel_rfl) (by kernel_rfl) (by kernel_rfl) (fun _ _ _ h => h) (Or.inl ⟨by rfl, ?ht412⟩) hH411 ?_
                case ht412 => intro w hSw; (try dsimp only at hSw); go_simp; try with_reducible rfl
                simp only [Act.put, List.setIfInBounds_toArray, List.set_cons_zero, List.set_cons_succ]
                refine wpAnyH_take (i := 12) (oi := { dst := some 71, op := Go.Op.move (Go.Operand.tmp 70), type := 4, pos := "ref.go:318", after := #[{ on := 11, ground := Go.Ground.data }, { on := 9, ground := Go.Ground.chain }], guard := none }) (v := ?vt413) rfl (by kernel_rfl) (by kernel_rfl) (by kernel_rfl) (fun _ _ _ h => h) (Or.inl ⟨by rfl, ?ht413⟩) hH411 ?_
                case ht413 => intro w hSw; (try dsimp only at hSw); go_simp; try with_reducible rfl
                simp only [Act.put, List.setIfInBounds_toArray, List.set_cons_zero, List.set_cons_succ]
                refine wpAnyH_take (i := 13) (oi := { dst := some 72, op := Go.Op.move (Go.Operand.tmp 4), type := 37, pos := "ref.go:318", after := #[{ on := 12, ground := Go.Ground.guard }], guard := some (12, false) }) (v := ?vt414) rfl (by kernel_rfl) (by kernel_rfl) (by kernel_rfl) (fun _ _ _ h => h) (Or.inl ⟨by rfl, ?ht414⟩) hH411 ?_
                case ht414 => intro w hSw; (try dsimp only at hSw); go_simp; try with_reducible rfl
                simp only [Act.put, List.setIfInBounds_toArray, List.set_cons_zero, List.set_cons_succ]
                refine wpAnyH_take (i := 14) (oi := { dst := some 73, op := Go.Op.move (Go.Operand.tmp 14), type := 3, pos := "ref.go:318", after := #[{ on := 12, ground := Go.Ground.guard }], guard := some (12, false) }) (v := ?vt415) rfl (by kernel_rfl) (by kernel_rfl) (by kernel_rfl) (fun _ _ _ h => h) (Or.inl ⟨by rfl, ?ht415⟩) hH411 ?_
                case ht415 => intro w hSw; (try dsimp only at hSw); go_simp; try with_reducible rfl
                simp only [Act.put, List.setIfInBounds_toArray, List.set_cons_zero, List.set_cons_succ]
                refine wpAnyH_take (i := 15) (oi := { dst := some 74, op := Go.Op.binOp Go.BinOp.add 3 (Go.Operand.tmp 73) (Go.Operand.const (Go.Value.int Go.IntKind.i64 1)) 3, type := 3, pos := "ref.go:318", after := #[{ on := 14, ground := Go.Ground.data }, { on := 12, ground := Go.Ground.guard }], guard := some (12, false) }) (v := ?vt416) rfl (by kernel_rfl) (by kernel_rfl) (by kernel_rfl) (fun _ _ _ h => h) (Or.inl ⟨by rfl, ?ht416⟩) hH411 ?_
                case ht416 => intro w hSw; (try dsimp only at hSw); go_simp; try with_reducible rfl
                simp only [Act.put, List.setIfInBounds_toArray, List.set_cons_zero, List.set_cons_succ]
                refine wpAnyH_take (i := 16) (oi := { dst := some 75, op := Go.Op.slice 37 (Go.Operand.tmp 72) none (some (Go.Operand.tmp 74)) none, type := 37, pos := "ref.go:318", after := #[{ on := 13, ground := Go.Ground.data }, { on := 15, ground := Go.Ground.data }, { on := 12, ground := Go.Ground.guard }], guard := some (12, false) }) (v := ?vt417) rfl (by kernel_rfl) (by kernel_rfl) (by kernel_rfl) (fun _ _ _ h => h) (Or.inl ⟨by rfl, ?ht417⟩) hH411 ?_
                case ht417 => intro w hSw; (try dsimp only at hSw); go_simp; try with_reducible rfl
                simp only [Act.put, List.setIfInBounds_toArray, List.set_cons_zero, List.set_cons_succ]
                refine wpAnyH_take (i := 17) (oi := { dst := some 76, op := Go.Op.move (Go.Operand.tmp 4), type := 37, pos := "ref.go:318", after := #[{ on := 12, ground := Go.Ground.guard }], guard := some (12, false) }) (v := ?vt418) rfl (by kernel_rfl) (by kernel_rfl) (by kernel_rfl) (fun _ _ _ h => h) (Or.inl ⟨by rfl, ?ht418⟩) hH411 ?_
                case ht418 => intro w hSw; (try dsimp only at hSw); go_simp; try with_reducible rfl
                simp only [Act.put, List.setIfInBounds_toArray, List.set_cons_zero, List.set_cons_succ]
                refine wpAnyH_take (i := 18) (oi := { dst := some 77, op := Go.Op.move (Go.Operand.tmp 14), type := 3, pos := "ref.go:318", after := #[{ on := 12, ground := Go.Ground.guard }], guard := some (12, false) }) (v := ?vt419) rfl (by kernel_rfl) (by kernel_rfl) (by kernel_rfl) (fun _ _ _ h => h) (Or.inl ⟨by rfl, ?ht419⟩) hH411 ?_
                case ht419 => intro w hSw; (try dsimp only at hSw); go_simp; try with_reducible rfl
                simp only [Act.put, List.setIfInBounds_toArray, List.set_cons_zero, List.set_cons_succ]
                refine wpAnyH_take (i := 19) (oi := { dst := some 78, op := Go.Op.indexAddr 37 (Go.Operand.tmp 76) (Go.Operand.tmp 77), type := 0, pos := "ref.go:318", after := #[{ on := 17, ground := Go.Ground.data }, { on := 18, ground := Go.Ground.data }, { on := 12, ground := Go.Ground.guard }], guard := some (12, false) }) (v := ?vt420) rfl (by kernel_rfl) (by kernel_rfl) (by kernel_rfl) (fun _ _ _ h => h) (Or.inl ⟨by rfl, ?ht420⟩) hH411 ?_
                case ht420 => intro w hSw; (try dsimp only at hSw); go_simp; try with_reducible rfl
                simp only [Act.put, List.setIfInBounds_toArray, List.set_cons_zero, List.set_cons_succ]
                refine wpAnyH_take (i := 20) (oi := { dst := some 79, op := Go.Op.load 2 (Go.Operand.tmp 78), type := 2, pos := "ref.go:318", after := #[{ on := 19, ground := Go.Ground.data }, { on := 12, ground := Go.Ground.guard }], guard := some (12, false) }) (v := ?vt421) rfl (by kernel_rfl) (by kernel_rfl) (by kernel_rfl) (fun _ _ _ h => h) (Or.inl ⟨by rfl, ?ht421⟩) hH411 ?_
                case ht421 => intro w hSw; (try dsimp only at hSw); go_simp; try with_reducible rfl
                simp only [Act.put, List.setIfInBounds_toArray, List.set_cons_zero, List.set_cons_succ]
                refine wpAnyH_take (i := 21) (oi := { dst := some 80, op := Go.Op.move (Go.Operand.tmp 2), type := 2, pos := "ref.go:318", after := #[{ on := 12, ground := Go.Ground.guard }], guard := some (12, false) }) (v := ?vt422) rfl (by kernel_rfl) (by kernel_rfl) (by kernel_rfl) (fun _ _ _ h => h) (Or.inl ⟨by rfl, ?ht422⟩) hH411 ?_
                case ht422 => intro w hSw; (try dsimp only at hSw); go_simp; try with_reducible rfl
                simp only [Act.put, List.setIfInBounds_toArray, List.set_cons_zero, List.set_cons_succ]
                refine wpAnyH_take (i := 22) (oi := { dst := some 81, op := Go.Op.move (Go.Operand.tmp 3), type := 2, pos := "ref.go:318", after := #[{ on := 12, ground := Go.Ground.guard }], guard := some (12, false) }) (v := ?vt423) rfl (by kernel_rfl) (by kernel_rfl) (by kernel_rfl) (fun _ _ _ h => h) (Or.inl ⟨by rfl, ?ht423⟩) hH411 ?_
                case ht423 => intro w hSw; (try dsimp only at hSw); go_simp; try with_reducible rfl
                simp only [Act.put, List.setIfInBounds_toArray, List.set_cons_zero, List.set_cons_succ]
                refine wpAnyH_take (i := 23) (oi := { dst := some 82, op := Go.Op.binOp Go.BinOp.add 2 (Go.Operand.tmp 80) (Go.Operand.tmp 81) 2, type := 2, pos := "ref.go:318", after := #[{ on := 21, ground := Go.Ground.data }, { on := 22, ground := Go.Ground.data }, { on := 12, ground := Go.Ground.guard }], guard := some (12, false) }) (v := ?vt424) rfl (by kernel_rfl) (by kernel_rfl) (by kernel_rfl) (fun _ _ _ h => h) (Or.inl ⟨by rfl, ?ht424⟩) hH411 ?_
                case ht424 => intro w hSw; (try dsimp only at hSw); go_simp; try with_reducible rfl
                simp only [Act.put, List.setIfInBounds_toArray, List.set_cons_zero, List.set_cons_succ]
                refine wpAnyH_take (i := 25) (oi := { dst := some 84, op := Go.Op.move (Go.Operand.tmp 0), type := 3, pos := "ref.go:318", after := #[{ on := 12, ground := Go.Ground.guard }], guard := some (12, false) }) (v := ?vt425) rfl (by kernel_rfl) (by kernel_rfl) (by kernel_rfl) (fun _ _ _ h => h) (Or.inl ⟨by rfl, ?ht425⟩) hH411 ?_
                case ht425 => intro w hSw; (try dsimp only at hSw); go_simp; try with_reducible rfl
                simp only [Act.put, List.setIfInBounds_toArray, List.set_cons_zero, List.set_cons_succ]
                refine wpAnyH_ready (rs := [24]) (by kernel_rfl) (by simp) ?_
                refine AllReadyH.cons rfl (fun K hK => ?_) AllReadyH.nil
                go_simp
                refine (CALL.out _ _ HB.out.drew).mono ?_
                rintro e w_ ⟨rfl, rfl⟩
                rw [HY2.out]
                refine hK.out _ _ ?_ (fun hH426 => ?_)
                · exact c1
                clear hK K
                refine wpAnyH_take (i := 26) (oi := { dst := some 85, op := Go.Op.binOp Go.BinOp.gtr 3 (Go.Operand.tmp 83) (Go.Operand.tmp 84) 3, type := 4, pos := "ref.go:318", after := #[{ on := 24, ground := Go.Ground.data }, { on := 25, ground := Go.Ground.data }, { on := 12, ground := Go.Ground.guard }], guard := some (12, false) }) (v := ?vt427) rfl (by kernel_rfl) (by kernel_rfl) (by kernel_rfl) (fun _ _ _ h => h) (Or.inl ⟨by rfl, ?ht427⟩) hH426 ?_
                case ht427 => intro w hSw; (try dsimp only at hSw); go_simp; try with_reducible rfl
                simp only [Act.put, List.setIfInBounds_toArray, List.set_cons_zero, List.set_cons_succ]
                refine wpAnyH_take (i := 27) (oi := { dst := some 86, op := Go.Op.pick (Go.Operand.tmp 71) (Go.Operand.const (Go.Value.bool true)) (Go.Operand.tmp 85), type := 4, pos := "ref.go:318", after := #[{ on := 12, ground := Go.Ground.data }, { on := 26, ground := Go.Ground.data }], guard := none }) (v := ?vt428) rfl (by kernel_rfl) (by kernel_rfl) (by kernel_rfl) (fun _ _ _ h => h) (Or.inl ⟨by rfl, ?ht428⟩) hH426 ?_
                case ht428 => intro w hSw; (try dsimp only at hSw); go_simp; try with_reducible rfl
                simp only [Act.put, List.setIfInBounds_toArray, List.set_cons_zero, List.set_cons_succ]
                refine wpAnyH_done (by kernel_rfl) ?_ _
                --3>
                go_wp2
                go_roundw
                case rel => exact ⟨k + 1, by omega, by go_num, HVN, Lib.hid HB.out.drew⟩
                case measure => simp [intOf]; omega
          · have HE := Lib.hid (HC3.out HALL.out (fun j hj => HV.out j (by have := HN.out; omega)))
            go_wp2
            go_ret2
            rw [HE.out]
            exact ⟨by rw [← HN.out]; rfl, HB.out⟩
  · have HR : Hid (csR p b st rs l = (0, er)) := Lib.hid (by rw [csR_0 (by rw [her']; exact hz), her'])
    have hz' : (er != 0) = true := by rw [bne_iff_ne]; exact hz
    have hz'' : (er == 0) = false := beq_eq_false_iff_ne.2 hz
    clear h0 hB hi64 her her'
    go_enter Try.func29, Try.ntmps29
    go_wp2_with fail
    refine (boiler_any _ _ _ _ _ _).mono ?_
    rintro e w1 ⟨rfl, rfl⟩
    rw [HER.out]
    go_wp2
    go_ret2
    rw [HR.out]
    exact ⟨rfl, Below.refl _ _⟩
end Go.Proofs.Ytomncopeekegoaa
