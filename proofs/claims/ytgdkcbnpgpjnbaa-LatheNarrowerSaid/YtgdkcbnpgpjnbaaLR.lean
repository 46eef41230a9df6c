/-
  Contract of path: the steps by which a sample is held, in their order.
-/
import Derived.Test.YtgdkcbnpgpjnbaaLS
namespace Go.Proofs.Ytgdkcbnpgpjnbaa
open Go.RowKit

/-- The list of what holds the samples, as a function. -/
def hx (H : List Smp) : Nat → Smp := fun i => H.getD i (0, 0)
theorem hx_eq {H : List Smp} {i : Nat} (h : i < H.length) : hx H i = H[i] := by unfold hx; rw [List.getD_eq_getElem?_getD, List.getElem?_eq_getElem h]; rfl
theorem RS.hx {w : World} {B : Nat} {A : Option Addr} {n : Nat} {H : List Smp} (h : RS w B A n H) {k : Nat} (hk : k < n) :
    ∃ ad, A = some ad ∧ ad.block < B ∧ w.cell? (ad.add (k * 2)) = some (.int .i64 (hx H k).1) ∧ w.cell? ⟨(ad.add (k * 2)).block, (ad.add (k * 2)).off + 1, none⟩ = some (.int .i64 (hx H k).2) := by
  have hk' : k < H.length := h.1 ▸ hk
  rw [hx_eq hk']; exact h.at_ hk'
theorem led_next {b : Bk} {P : List Smp} {m : Nat} {H : Nat → Smp} {c : Int} {j : Nat} {s : Int} {l : List Smp} (hb : BkOk b) (hm : m ≤ P.length) (h : Led b P m H c j s l) :
    ∃ r i f w l', l = (r, i) :: l' ∧ H j = (r, i) ∧ edgO b P (r, i) = some (f, (j : Int), w) ∧ ((f = -1 ∧ l' = []) ∨ ∃ (q : Nat) (s' : Int), f = (q : Int) ∧ Led b P m H c q s' l') := by
  cases h with
  | rim hj h hc => exact ⟨1, _, -1, _, [], rfl, h, edgO_rim (by omega), .inl ⟨rfl, rfl⟩⟩
  | step hj h he hl hc =>
    rename_i q st s' w l'
    obtain ⟨r, i⟩ := st
    exact ⟨r, i, (q : Int), w, l', rfl, h, edg_edgO hb he (by have := hl.lt; omega) (by omega), .inr ⟨q, s', rfl, hl⟩⟩
theorem rs_grownL {w w' : World} {row : Option Nat} {B n : Nat} {A : Option Addr} {xs : List Smp} (h : RS w B A n xs) (hg : w.grownBy w' row) (hr : ∀ q, row = some q → B ≤ q) : RS w' B A n xs := by
  refine ⟨h.1, h.2.1, fun hn => ?_⟩
  obtain ⟨ad, e, hb, hc⟩ := h.2.2 hn
  exact ⟨ad, e, hb, fun j u hu => hg.cell (hc j u hu) (fun e => by rw [block_of_add] at e; have := hr _ e.symm; omega)⟩
def lenOf : Value → Nat
  | .slice _ n _ => n
  | _ => 0
theorem own_neV {W : World} {g : Nat} {t e : TypeId} {cs : Array Value} {base size m : Nat} {v : Value} {xs : List Value} (hB : Blk W g t cs) (hr : W.ownsRow base e size v m xs) (ht : t ≠ e) : some g ≠ v.ownBlock := by
  intro h
  rcases hr.2 with ⟨rfl, _⟩ | ⟨g', cap', cur, rfl, hb, hg, _⟩
  · simp [Value.ownBlock] at h
  · simp [Value.ownBlock] at h
    subst h
    rw [show W.heap[g]? = _ from hB] at hg
    simp only [Option.some.injEq, Obj.cells.injEq] at hg
    exact ht hg.2.1
section
variable {w : World} {g be m kh q B : Nat} {vr vp : Value} {ft r i tt kk r' i' : Int} {b : Bk} {A : Option Addr} {n c : Nat} {ad : Addr} {H : List Smp}
theorem held_cells (hC : Blk w g 71 #[.int .i64 b.per, .int .i64 b.rim, .int .i64 b.core, .int .i64 b.land, .int .i64 b.slow, .int .i64 b.fast, .slice A n c, vr, .slice (some ad) m kh, .int .i64 ft, vp]) (hE : Blk w be 78 #[.int .i64 r, .int .i64 i, .int .i64 q, .int .i64 tt, .int .i64 kk])
    (hH : RS w B (some ad) m H) (hq : q < m) (hx' : hx H q = (r', i')) : w.cell? ⟨g, 8, none⟩ = some (.slice (some ad) m kh) ∧ w.cell? ⟨be, 2, none⟩ = some (.int .i64 q) ∧ w.cell? (ad.add (q * 2)) = some (.int .i64 r') ∧ w.cell? ⟨(ad.add (q * 2)).block, (ad.add (q * 2)).off + 1, none⟩ = some (.int .i64 i') := by
  obtain ⟨ad', e, -, h1, h2⟩ := hH.hx hq
  cases e
  rw [hx'] at h1 h2
  exact ⟨hC.eleven.2.2.2.2.2.2.2.2.1, hE.five.2.2.1, h1, h2⟩
theorem side_cells (hC : Blk w g 71 #[.int .i64 b.per, .int .i64 b.rim, .int .i64 b.core, .int .i64 b.land, .int .i64 b.slow, .int .i64 b.fast, .slice A n c, vr, .slice (some ad) m kh, .int .i64 ft, vp])
    (hH : RS w B (some ad) m H) (hq : q < m) (hx' : hx H q = (r', i')) : w.cell? ⟨g, 0, none⟩ = some (.int .i64 b.per) ∧ w.cell? ⟨g, 1, none⟩ = some (.int .i64 b.rim) ∧ w.cell? ⟨g, 2, none⟩ = some (.int .i64 b.core) ∧ w.cell? ⟨g, 3, none⟩ = some (.int .i64 b.land) ∧ w.cell? ⟨g, 4, none⟩ = some (.int .i64 b.slow) ∧ w.cell? ⟨g, 5, none⟩ = some (.int .i64 b.fast) ∧ w.cell? ⟨g, 6, none⟩ = some (.slice A n c) ∧ w.cell? ⟨g, 8, none⟩ = some (.slice (some ad) m kh) ∧ w.cell? (ad.add (q * 2)) = some (.int .i64 r') ∧ w.cell? ⟨(ad.add (q * 2)).block, (ad.add (q * 2)).off + 1, none⟩ = some (.int .i64 i') := by
  obtain ⟨ad', e, -, h1, h2⟩ := hH.hx hq
  cases e
  rw [hx'] at h1 h2
  obtain ⟨c0, c1, c2, c3, c4, c5, c6, -, c8, -⟩ := hC.eleven
  exact ⟨c0, c1, c2, c3, c4, c5, c6, c8, h1, h2⟩
end
set_option maxRecDepth 100000 in
set_option maxHeartbeats 16000000 in
theorem path_any (g n c m kh B Bh j : Nat) (A : Option Addr) (ad : Addr) (b : Bk) (P H l : List Smp) (vr vp : Value) (ft w0 s0 cc : Int) (w : World) (hC : Blk w g 71 #[.int .i64 b.per, .int .i64 b.rim, .int .i64 b.core, .int .i64 b.land, .int .i64 b.slow, .int .i64 b.fast, .slice A n c, vr, .slice (some ad) m kh, .int .i64 ft, vp]) (hP : RS w B A n P) (hB : B ≤ w.heap.size)
    (hH : RS w Bh (some ad) m H) (hBh : Bh ≤ w.heap.size) (hm : m ≤ n) (hn : n ≤ 1000000) (hb : BkOk b) (hOk : PsOk P) (hL : Led b P m (hx H) cc j s0 l) (hl : l.length ≤ 900000) :
    Calls Try.prog 63 #[.pointer (some ⟨g, 0, none⟩), .agg #[.int .i64 2, .int .i64 j, .int .i64 j, .int .i64 (-1), .int .i64 w0]] w fun e w' => ∃ v, e = .returned v ∧ w'.ownsRow w.heap.size 52 2 v (l.length + 1) (smpCells (l.reverse ++ [(2, (j : Int))])) ∧ Below w.heap.size w w' := by
  obtain ⟨i1, hi1, hy0, hy1, hy2⟩ := info_partsL info_step
  have HI1 := Lib.hid hi1
  have HY0 := Lib.hid hy0
  have HY1 := Lib.hid hy1
  have HY2 := Lib.hid hy2
  have HC := Lib.hid hC
  have HH := Lib.hid hH
  have HGL := Lib.hid hC.lt
  have HBL := Lib.hid hBh
  have HL := Lib.hid hL
  have HMP : Hid (m ≤ P.length) := Lib.hid (by have := hP.1; omega)
  have HBB := Lib.hid hb
  have CE := Lib.hid (fun (r i : Int) (X : World) (h : Below w.heap.size w X) => edge_any B A n c b P r i X (hP.below h hB) (by have := h.size; omega) hn hb hOk)
  have HREV : Hid ((((2, (j : Int)) : Smp) :: l).reverse = l.reverse ++ [(2, (j : Int))]) := Lib.hid (by simp)
  clear hi1 hy0 hy1 hy2 hC hP hH hBh hL hb hOk hm
  go_enter Try.func63, Try.ntmps63
  go_wp2
  go_loopw [5, 6] (fun v pe wr => ∃ (t be : Nat) (Av : Option Addr) (cv : Nat) (r i f tt kk : Int), t ≤ l.length ∧ v = .slice Av (1 + t) cv ∧ pe = .pointer (some ⟨be, 0, none⟩) ∧ Hid (wr.ownsRow w.heap.size 52 2 v (1 + t) (smpCells ((2, (j : Int)) :: l.take t))) ∧ Hid (Blk wr be 78 #[.int .i64 r, .int .i64 i, .int .i64 f, .int .i64 tt, .int .i64 kk]) ∧ Hid (w.heap.size ≤ be) ∧ Hid (Below w.heap.size w wr) ∧ Hid ((f = -1 ∧ t = l.length) ∨ ∃ (q : Nat) (s' : Int), f = (q : Int) ∧ Led b P m (hx H) cc q s' (l.drop t))) (fun v pe wr => l.length + 1 - lenOf v)
  case atStart =>
    refine ⟨0, w.heap.size + 1 + 1, some ⟨w.heap.size + 1, 0, none⟩, 1, 2, j, j, -1, w0, by omega, rfl, rfl, Lib.hid ?_, Lib.hid ?_, Lib.hid (by omega), Lib.hid ?_, Lib.hid (.inr ⟨j, s0, rfl, HL.out⟩)⟩
    · have h := own_lit (w.alloc (.cells #[.int .i64 2, .int .i64 j, .int .i64 j, .int .i64 (-1), .int .i64 w0] 78)) 52 w.heap.size 1 2 #[.int .i64 2, .int .i64 j] (by simp) rfl (by simp [maxLen])
      rw [World.size_alloc] at h
      have h2 := own_below h (below_a _ (.cells #[.int .i64 2, .int .i64 j, .int .i64 j, .int .i64 (-1), .int .i64 w0] 78))
      exact h2
    · exact blk_al (by simp)
    · exact (((Below.refl _ _).alloc (Nat.le_refl _) _).alloc (by simp) _).alloc (by simp; omega) _
  case round =>
    obtain ⟨t, be, Av, cv, r, i, f, tt, kk, ht, hv, rfl, HO, HE, HBE, HBW, HF⟩ := hrel
    have HV := Lib.hid hv
    have HCw := HC
    have HHw := HH
    replace HC := Lib.hid (HC.out.below HBW.out HGL.out)
    replace HH := Lib.hid (HH.out.below (HBW.out.mono HBL.out) (Nat.le_refl _))
    have HBH : Hid (Bh ≤ wr.heap.size) := Lib.hid (Nat.le_trans HBL.out HBW.out.size)
    have hfc := HF.out
    rcases hfc with ⟨hf, htl⟩ | ⟨q, s', hf, hled⟩
    · subst hf
      have c1 := HE.out.five.2.2.1
      obtain ⟨g9, cap9, hv9⟩ : ∃ g9 cap9, u5 = .slice (some ⟨g9, 0, none⟩) (1 + t) cap9 := by
        rcases HO.out.2 with ⟨-, h'⟩ | ⟨g9, cap9, cur9, h', -⟩
        · omega
        · exact ⟨g9, cap9, h'⟩
      rw [hv9] at HO
      have RV := Lib.hid (reverseP_any w.heap.size g9 (1 + t) cap9 ((2, (j : Int)) :: l.take t) wr HO.out (by omega))
      have hgw := (own_ge HO.out).1
      have HTL := Lib.hid htl
      subst hv9
      clear hv htl
      go_wp2_with (refine RV.out.mono ?_; rintro e w3 ⟨⟨v3, rfl⟩, ho3, hg3⟩; have HO3 := Lib.hid ho3; have HG3 := Lib.hid hg3; clear ho3 hg3)
      go_ret
      refine ⟨_, rfl, ?_, HBW.out.grown HG3.out HBW.out.size (fun p hp => by have h := Option.some.inj hp; omega)⟩
      have h := HO3.out
      have htl := HTL.out
      rw [htl, List.take_length, HREV.out] at h
      rw [show l.length + 1 = 1 + l.length by omega]
      rw [htl]
      exact h
    · subst hf
      obtain ⟨r', i', f', w', l', hdl, hxq, hed, hnx⟩ := led_next HBB.out HMP.out hled
      have HQM := Lib.hid hled.lt
      have HHX := Lib.hid hxq
      have hlt : t < l.length := by
        have := congrArg List.length hdl
        simp at this; omega
      have HDL := Lib.hid hdl
      have HNX := Lib.hid hnx
      have hqm : (q : Int) < (m : Int) := by have := hled.lt; omega
      have hq1 : ((q : Int) != -1) = true := by simp
      have hq2 : (0 : Int) ≤ (q : Int) := by omega
      have CE := Lib.hid (fun X h => by have h2 := CE.out r' i' X h; rw [hed] at h2; simpa only [edgV, Option.isSome_some] using h2)
      have c1 := HE.out.five.2.2.1
      clear hv hled hdl hxq hed hnx HF
      go_wp2_with fail
      have hS := held_cells HC.out HE.out HH.out HQM.out HHX.out
      refine wp_region_held_drew (S := fun w' => w'.cell? ⟨g, 8, none⟩ = some (.slice (some ad) m kh) ∧ w'.cell? ⟨be, 2, none⟩ = some (.int .i64 q) ∧ w'.cell? (ad.add (q * 2)) = some (.int .i64 r') ∧ w'.cell? ⟨(ad.add (q * 2)).block, (ad.add (q * 2)).off + 1, none⟩ = some (.int .i64 i')) (by kernel_rfl) hS ?_
      intro hHeld
      refine wpAnyH_take (i := 0) (oi := { dst := some 14, op := Go.Op.move (Go.Operand.tmp 5), type := 36, pos := "course.go:85", after := #[], guard := none }) (v := ?vt401) rfl (by kernel_rfl) (by kernel_rfl) (by kernel_rfl) (fun _ _ _ h => h) (Or.inl ⟨by rfl, ?ht401⟩) hHeld ?_
      case ht401 => intro w hSw; obtain ⟨h1, h2, h3, h4⟩ := hSw; go_simp; try with_reducible rfl
      simp only [Act.put, List.setIfInBounds_toArray, List.set_cons_zero, List.set_cons_succ]
      refine wpAnyH_take (i := 1) (oi := { dst := some 15, op := Go.Op.move (Go.Operand.tmp 0), type := 109, pos := "course.go:85", after := #[], guard := none }) (v := ?vt402) rfl (by kernel_rfl) (by kernel_rfl) (by kernel_rfl) (fun _ _ _ h => h) (Or.inl ⟨by rfl, ?ht402⟩) hHeld ?_
      case ht402 => intro w hSw; obtain ⟨h1, h2, h3, h4⟩ := hSw; go_simp; try with_reducible rfl
      simp only [Act.put, List.setIfInBounds_toArray, List.set_cons_zero, List.set_cons_succ]
      refine wpAnyH_take (i := 2) (oi := { dst := some 16, op := Go.Op.nilCheck (Go.Operand.tmp 15), type := 0, pos := "course.go:85", after := #[{ on := 1, ground := Go.Ground.data }], guard := none }) (v := ?vt403) rfl (by kernel_rfl) (by kernel_rfl) (by kernel_rfl) (fun _ _ _ h => h) (Or.inl ⟨by rfl, ?ht403⟩) hHeld ?_
      case ht403 => intro w hSw; obtain ⟨h1, h2, h3, h4⟩ := hSw; go_simp; try with_reducible rfl
      simp only [Act.put, List.setIfInBounds_toArray, List.set_cons_zero, List.set_cons_succ]
      refine wpAnyH_take (i := 3) (oi := { dst := some 17, op := Go.Op.fieldAddr 71 (Go.Operand.tmp 16) 2, type := 0, pos := "course.go:85", after := #[{ on := 2, ground := Go.Ground.data }], guard := none }) (v := ?vt404) rfl (by kernel_rfl) (by kernel_rfl) (by kernel_rfl) (fun _ _ _ h => h) (Or.inl ⟨by rfl, ?ht404⟩) hHeld ?_
      case ht404 => intro w hSw; obtain ⟨h1, h2, h3, h4⟩ := hSw; go_simp; try with_reducible rfl
      simp only [Act.put, List.setIfInBounds_toArray, List.set_cons_zero, List.set_cons_succ]
      refine wpAnyH_take (i := 4) (oi := { dst := some 18, op := Go.Op.load 36 (Go.Operand.tmp 17), type := 36, pos := "course.go:85", after := #[{ on := 3, ground := Go.Ground.data }], guard := none }) (v := ?vt405) rfl (by kernel_rfl) (by kernel_rfl) (by kernel_rfl) (fun _ _ _ h => h) (Or.inl ⟨by rfl, ?ht405⟩) hHeld ?_
      case ht405 => intro w hSw; obtain ⟨h1, h2, h3, h4⟩ := hSw; go_simp; try with_reducible rfl
      simp only [Act.put, List.setIfInBounds_toArray, List.set_cons_zero, List.set_cons_succ]
      refine wpAnyH_take (i := 5) (oi := { dst := some 19, op := Go.Op.fieldAddr 78 (Go.Operand.tmp 6) 1, type := 0, pos := "course.go:85", after := #[], guard := none }) (v := ?vt406) rfl (by kernel_rfl) (by kernel_rfl) (by kernel_rfl) (fun _ _ _ h => h) (Or.inl ⟨by rfl, ?ht406⟩) hHeld ?_
      case ht406 => intro w hSw; obtain ⟨h1, h2, h3, h4⟩ := hSw; go_simp; try with_reducible rfl
      simp only [Act.put, List.setIfInBounds_toArray, List.set_cons_zero, List.set_cons_succ]
      refine wpAnyH_take (i := 6) (oi := { dst := some 20, op := Go.Op.load 3 (Go.Operand.tmp 19), type := 3, pos := "course.go:85", after := #[{ on := 5, ground := Go.Ground.data }], guard := none }) (v := ?vt407) rfl (by kernel_rfl) (by kernel_rfl) (by kernel_rfl) (fun _ _ _ h => h) (Or.inl ⟨by rfl, ?ht407⟩) hHeld ?_
      case ht407 => intro w hSw; obtain ⟨h1, h2, h3, h4⟩ := hSw; go_simp; try with_reducible rfl
      simp only [Act.put, List.setIfInBounds_toArray, List.set_cons_zero, List.set_cons_succ]
      refine wpAnyH_take (i := 7) (oi := { dst := some 21, op := Go.Op.indexAddr 36 (Go.Operand.tmp 18) (Go.Operand.tmp 20), type := 0, pos := "course.go:85", after := #[{ on := 4, ground := Go.Ground.data }, { on := 6, ground := Go.Ground.data }], guard := none }) (v := ?vt408) rfl (by kernel_rfl) (by kernel_rfl) (by kernel_rfl) (fun _ _ _ h => h) (Or.inl ⟨by rfl, ?ht408⟩) hHeld ?_
      case ht408 => intro w hSw; obtain ⟨h1, h2, h3, h4⟩ := hSw; go_simp; try with_reducible rfl
      simp only [Act.put, List.setIfInBounds_toArray, List.set_cons_zero, List.set_cons_succ]
      refine wpAnyH_take (i := 8) (oi := { dst := some 22, op := Go.Op.load 52 (Go.Operand.tmp 21), type := 52, pos := "course.go:85", after := #[{ on := 7, ground := Go.Ground.data }], guard := none }) (v := ?vt409) rfl (by kernel_rfl) (by kernel_rfl) (by kernel_rfl) (fun _ _ _ h => h) (Or.inl ⟨by rfl, ?ht409⟩) hHeld ?_
      case ht409 => intro w hSw; obtain ⟨h1, h2, h3, h4⟩ := hSw; go_simp; try with_reducible rfl
      simp only [Act.put, List.setIfInBounds_toArray, List.set_cons_zero, List.set_cons_succ]
      refine wpAnyH_ready (rs := [9]) (by kernel_rfl) (by simp) ?_
      refine AllReadyH.cons rfl (fun K hK => ?_) AllReadyH.nil
      go_simp
      obtain ⟨Y, hY⟩ : ∃ Y, (wr.alloc (.cells #[.int .i64 r', .int .i64 i'] 52)).drew = Y := ⟨_, rfl⟩
      have hb : Below wr.heap.size wr Y := by rw [← hY]; exact below_ad wr _
      have HLIT : Hid (Reads Y (wr.heap.size + 1) 2 (some ⟨wr.heap.size, 0, none⟩) 1 [.int .i64 r', .int .i64 i']) := Lib.hid ⟨rfl, fun _ => ⟨_, rfl, by show wr.heap.size < _; omega, by rw [← hY]; exact nine_new wr _ _⟩⟩
      replace HC := Lib.hid (HC.out.below hb HC.out.lt)
      replace HE := Lib.hid (HE.out.below hb HE.out.lt)
      replace HH := Lib.hid (HH.out.below (hb.mono HBH.out) (Nat.le_refl _))
      replace HO := Lib.hid (own_below HO.out hb)
      replace HBW := Lib.hid (HBW.out.trans (hb.mono HBW.out.size))
      replace HBH := Lib.hid (Nat.le_trans HBH.out hb.size)
      have hS := held_cells HC.out HE.out HH.out HQM.out HHX.out
      have hwY : w.heap.size ≤ Y.heap.size := HBW.out.size
      have hLTY : wr.heap.size < Y.heap.size := by rw [← hY]; simp
      rw [hY]
      clear hY hb
      refine hK.out _ _ ?_ (fun hH410 => ?_)
      · exact hS
      clear hK K
      refine wpAnyH_ready (rs := [10]) (by kernel_rfl) (by simp) ?_
      refine AllReadyH.cons rfl (fun K hK => ?_) AllReadyH.nil
      refine step_append_any _ rfl (.tmp 14) (.tmp 23) _ rfl w.heap.size 52 i1 _ 2 16 Try.underlying36 HI1.out HY0.out HY1.out HY2.out rfl (by omega) _ (1 + t) (smpCells ((2, j) :: l.take t)) rfl HO.out _ _ 1 _ [.int .i64 r', .int .i64 i'] rfl HLIT.out (by intro u hu; simp only [List.mem_cons, List.not_mem_nil, or_false] at hu; rcases hu with rfl | rfl <;> rfl) (by unfold maxLen; omega) (by omega) hwY ?_
      intro v' Z hown' hgrow hblk
      have hne : some be ≠ u5.ownBlock := own_neV HE.out HO.out (by decide)
      have hvb : ∀ q, u5.ownBlock = some q → w.heap.size ≤ q := fun q hq => (HO.out.lt q hq).1
      replace HC := Lib.hid (HC.out.grown hgrow (fun e => by have := hvb _ e.symm; have := HGL.out; omega))
      replace HE := Lib.hid (HE.out.grown hgrow hne)
      replace HH := Lib.hid (rs_grownL HH.out hgrow (fun q hq => by have := hvb _ hq; have := HBL.out; omega))
      replace HBW := Lib.hid (HBW.out.grown hgrow hwY hvb)
      replace HBH := Lib.hid (Nat.le_trans HBH.out hgrow.size)
      replace HO := Lib.hid hown'
      have hS := held_cells HC.out HE.out HH.out HQM.out HHX.out
      clear hown' hgrow hblk hne hvb hwY hLTY HLIT
      generalize hd : Oper.dst _ = d
      have hd : d = some 24 := hd.symm
      subst hd
      simp only [Act.put, List.setIfInBounds_toArray, List.set_cons_zero, List.set_cons_succ]
      refine hK.out _ _ ?_ (fun hH411 => ?_)
      · exact hS
      clear hK K
      refine wpAnyH_take (i := 11) (oi := { dst := some 5, op := Go.Op.assign (Go.Operand.tmp 24), type := 36, pos := "course.go:85", after := #[{ on := 10, ground := Go.Ground.data }, { on := 10, ground := Go.Ground.chain }, { on := 0, ground := Go.Ground.phase }, { on := 1, ground := Go.Ground.phase }, { on := 2, ground := Go.Ground.phase }, { on := 3, ground := Go.Ground.phase }, { on := 4, ground := Go.Ground.phase }, { on := 5, ground := Go.Ground.phase }, { on := 6, ground := Go.Ground.phase }, { on := 7, ground := Go.Ground.phase }, { on := 8, ground := Go.Ground.phase }, { on := 9, ground := Go.Ground.phase }, { on := 10, ground := Go.Ground.phase }], guard := none }) (v := ?vt412) rfl (by kernel_rfl) (by kernel_rfl) (by kernel_rfl) (fun _ _ _ h => h) (Or.inl ⟨by rfl, ?ht412⟩) hH411 ?_
      case ht412 => intro w hSw; obtain ⟨h1, h2, h3, h4⟩ := hSw; go_simp; try with_reducible rfl
      simp only [Act.put, List.setIfInBounds_toArray, List.set_cons_zero, List.set_cons_succ]
      refine wpAnyH_done (by kernel_rfl) ?_ _
      go_wp2_with fail
      have hSb := side_cells HC.out HH.out HQM.out HHX.out
      obtain ⟨-, u1, -⟩ := HE.out.five
      refine wp_region_held_drew (S := fun w' => w'.cell? ⟨g, 0, none⟩ = some (.int .i64 b.per) ∧ w'.cell? ⟨g, 1, none⟩ = some (.int .i64 b.rim) ∧ w'.cell? ⟨g, 2, none⟩ = some (.int .i64 b.core) ∧ w'.cell? ⟨g, 3, none⟩ = some (.int .i64 b.land) ∧ w'.cell? ⟨g, 4, none⟩ = some (.int .i64 b.slow) ∧ w'.cell? ⟨g, 5, none⟩ = some (.int .i64 b.fast) ∧ w'.cell? ⟨g, 6, none⟩ = some (.slice A n c) ∧ w'.cell? ⟨g, 8, none⟩ = some (.slice (some ad) m kh) ∧ w'.cell? (ad.add (q * 2)) = some (.int .i64 r') ∧ w'.cell? ⟨(ad.add (q * 2)).block, (ad.add (q * 2)).off + 1, none⟩ = some (.int .i64 i')) (by kernel_rfl) hSb ?_
      intro hHeld
      refine wpAnyH_take (i := 0) (oi := { dst := some 26, op := Go.Op.move (Go.Operand.tmp 0), type := 109, pos := "course.go:86", after := #[], guard := none }) (v := ?vt501) rfl (by kernel_rfl) (by kernel_rfl) (by kernel_rfl) (fun _ _ _ h => h) (Or.inl ⟨by rfl, ?ht501⟩) hHeld ?_
      case ht501 => intro w hSw; obtain ⟨h0, h1, h2, h3, h4, h5, h6, h7, h8, h9⟩ := hSw; go_simp; try with_reducible rfl
      simp only [Act.put, List.setIfInBounds_toArray, List.set_cons_zero, List.set_cons_succ]
      refine wpAnyH_take (i := 1) (oi := { dst := some 27, op := Go.Op.nilCheck (Go.Operand.tmp 26), type := 0, pos := "course.go:86", after := #[{ on := 0, ground := Go.Ground.data }], guard := none }) (v := ?vt502) rfl (by kernel_rfl) (by kernel_rfl) (by kernel_rfl) (fun _ _ _ h => h) (Or.inl ⟨by rfl, ?ht502⟩) hHeld ?_
      case ht502 => intro w hSw; obtain ⟨h0, h1, h2, h3, h4, h5, h6, h7, h8, h9⟩ := hSw; go_simp; try with_reducible rfl
      simp only [Act.put, List.setIfInBounds_toArray, List.set_cons_zero, List.set_cons_succ]
      refine wpAnyH_take (i := 2) (oi := { dst := some 28, op := Go.Op.fieldAddr 71 (Go.Operand.tmp 27) 0, type := 0, pos := "course.go:86", after := #[{ on := 1, ground := Go.Ground.data }], guard := none }) (v := ?vt503) rfl (by kernel_rfl) (by kernel_rfl) (by kernel_rfl) (fun _ _ _ h => h) (Or.inl ⟨by rfl, ?ht503⟩) hHeld ?_
      case ht503 => intro w hSw; obtain ⟨h0, h1, h2, h3, h4, h5, h6, h7, h8, h9⟩ := hSw; go_simp; try with_reducible rfl
      simp only [Act.put, List.setIfInBounds_toArray, List.set_cons_zero, List.set_cons_succ]
      refine wpAnyH_take (i := 3) (oi := { dst := some 29, op := Go.Op.load 69 (Go.Operand.tmp 28), type := 69, pos := "course.go:86", after := #[{ on := 2, ground := Go.Ground.data }], guard := none }) (v := ?vt504) rfl (by kernel_rfl) (by kernel_rfl) (by kernel_rfl) (fun _ _ _ h => h) (Or.inl ⟨by rfl, ?ht504⟩) hHeld ?_
      case ht504 => intro w hSw; obtain ⟨h0, h1, h2, h3, h4, h5, h6, h7, h8, h9⟩ := hSw; go_simp; try with_reducible rfl
      simp only [Act.put, List.setIfInBounds_toArray, List.set_cons_zero, List.set_cons_succ]
      refine wpAnyH_take (i := 4) (oi := { dst := some 30, op := Go.Op.move (Go.Operand.tmp 0), type := 109, pos := "course.go:86", after := #[], guard := none }) (v := ?vt505) rfl (by kernel_rfl) (by kernel_rfl) (by kernel_rfl) (fun _ _ _ h => h) (Or.inl ⟨by rfl, ?ht505⟩) hHeld ?_
      case ht505 => intro w hSw; obtain ⟨h0, h1, h2, h3, h4, h5, h6, h7, h8, h9⟩ := hSw; go_simp; try with_reducible rfl
      simp only [Act.put, List.setIfInBounds_toArray, List.set_cons_zero, List.set_cons_succ]
      refine wpAnyH_take (i := 5) (oi := { dst := some 31, op := Go.Op.nilCheck (Go.Operand.tmp 30), type := 0, pos := "course.go:86", after := #[{ on := 4, ground := Go.Ground.data }], guard := none }) (v := ?vt506) rfl (by kernel_rfl) (by kernel_rfl) (by kernel_rfl) (fun _ _ _ h => h) (Or.inl ⟨by rfl, ?ht506⟩) hHeld ?_
      case ht506 => intro w hSw; obtain ⟨h0, h1, h2, h3, h4, h5, h6, h7, h8, h9⟩ := hSw; go_simp; try with_reducible rfl
      simp only [Act.put, List.setIfInBounds_toArray, List.set_cons_zero, List.set_cons_succ]
      refine wpAnyH_take (i := 6) (oi := { dst := some 32, op := Go.Op.fieldAddr 71 (Go.Operand.tmp 31) 2, type := 0, pos := "course.go:86", after := #[{ on := 5, ground := Go.Ground.data }], guard := none }) (v := ?vt507) rfl (by kernel_rfl) (by kernel_rfl) (by kernel_rfl) (fun _ _ _ h => h) (Or.inl ⟨by rfl, ?ht507⟩) hHeld ?_
      case ht507 => intro w hSw; obtain ⟨h0, h1, h2, h3, h4, h5, h6, h7, h8, h9⟩ := hSw; go_simp; try with_reducible rfl
      simp only [Act.put, List.setIfInBounds_toArray, List.set_cons_zero, List.set_cons_succ]
      refine wpAnyH_take (i := 7) (oi := { dst := some 33, op := Go.Op.load 36 (Go.Operand.tmp 32), type := 36, pos := "course.go:86", after := #[{ on := 6, ground := Go.Ground.data }], guard := none }) (v := ?vt508) rfl (by kernel_rfl) (by kernel_rfl) (by kernel_rfl) (fun _ _ _ h => h) (Or.inl ⟨by rfl, ?ht508⟩) hHeld ?_
      case ht508 => intro w hSw; obtain ⟨h0, h1, h2, h3, h4, h5, h6, h7, h8, h9⟩ := hSw; go_simp; try with_reducible rfl
      simp only [Act.put, List.setIfInBounds_toArray, List.set_cons_zero, List.set_cons_succ]
      refine wpAnyH_take (i := 8) (oi := { dst := some 34, op := Go.Op.fieldAddr 78 (Go.Operand.tmp 6) 1, type := 0, pos := "course.go:86", after := #[], guard := none }) (v := ?vt509) rfl (by kernel_rfl) (by kernel_rfl) (by kernel_rfl) (fun _ _ _ h => h) (Or.inl ⟨by rfl, ?ht509⟩) hHeld ?_
      case ht509 => intro w hSw; obtain ⟨h0, h1, h2, h3, h4, h5, h6, h7, h8, h9⟩ := hSw; go_simp; try with_reducible rfl
      simp only [Act.put, List.setIfInBounds_toArray, List.set_cons_zero, List.set_cons_succ]
      refine wpAnyH_ready (rs := [9]) (by kernel_rfl) (by simp) ?_
      refine AllReadyH.cons rfl (fun K hK => ?_) AllReadyH.nil
      go_simp
      refine hK.out _ _ ?_ (fun hH510 => ?_)
      · exact hHeld
      clear hK K
      refine wpAnyH_take (i := 10) (oi := { dst := some 36, op := Go.Op.indexAddr 36 (Go.Operand.tmp 33) (Go.Operand.tmp 35), type := 0, pos := "course.go:86", after := #[{ on := 7, ground := Go.Ground.data }, { on := 9, ground := Go.Ground.data }], guard := none }) (v := ?vt511) rfl (by kernel_rfl) (by kernel_rfl) (by kernel_rfl) (fun _ _ _ h => h) (Or.inl ⟨by rfl, ?ht511⟩) hH510 ?_
      case ht511 => intro w hSw; obtain ⟨h0, h1, h2, h3, h4, h5, h6, h7, h8, h9⟩ := hSw; go_simp; try with_reducible rfl
      simp only [Act.put, List.setIfInBounds_toArray, List.set_cons_zero, List.set_cons_succ]
      refine wpAnyH_take (i := 11) (oi := { dst := some 37, op := Go.Op.load 52 (Go.Operand.tmp 36), type := 52, pos := "course.go:86", after := #[{ on := 10, ground := Go.Ground.data }], guard := none }) (v := ?vt512) rfl (by kernel_rfl) (by kernel_rfl) (by kernel_rfl) (fun _ _ _ h => h) (Or.inl ⟨by rfl, ?ht512⟩) hH510 ?_
      case ht512 => intro w hSw; obtain ⟨h0, h1, h2, h3, h4, h5, h6, h7, h8, h9⟩ := hSw; go_simp; try with_reducible rfl
      simp only [Act.put, List.setIfInBounds_toArray, List.set_cons_zero, List.set_cons_succ]
      refine wpAnyH_ready (rs := [12]) (by kernel_rfl) (by simp) ?_
      refine AllReadyH.cons rfl (fun K hK => ?_) AllReadyH.nil
      go_simp
      refine (CE.out _ HBW.out.drew).mono ?_
      rintro e Z2 ⟨rfl, hb2⟩
      replace hb2 : Below Z.heap.size Z Z2 := (Below.refl _ Z).drew.trans hb2
      replace HC := Lib.hid (HC.out.below hb2 HC.out.lt)
      replace HE := Lib.hid (HE.out.below hb2 HE.out.lt)
      replace HH := Lib.hid (HH.out.below (hb2.mono HBH.out) (Nat.le_refl _))
      replace HO := Lib.hid (own_below HO.out hb2)
      replace HBW := Lib.hid (HBW.out.trans (hb2.mono HBW.out.size))
      replace HBH := Lib.hid (Nat.le_trans HBH.out hb2.size)
      have hSa := side_cells HC.out HH.out HQM.out HHX.out
      obtain ⟨z0, z1, z2, z3, z4, z5, z6, z7, z8, z9, z10⟩ := HE.out.five
      clear hb2
      refine hK.out _ _ ?_ (fun hH513 => ?_)
      · exact hSa
      clear hK K
      refine wpAnyH_take (i := 13) (oi := { dst := some 25, op := Go.Op.move (Go.Operand.tmp 38), type := 79, pos := "course.go:86", after := #[{ on := 12, ground := Go.Ground.data }], guard := none }) (v := ?vt514) rfl (by kernel_rfl) (by kernel_rfl) (by kernel_rfl) (fun _ _ _ h => h) (Or.inl ⟨by rfl, ?ht514⟩) hH513 ?_
      case ht514 => intro w hSw; obtain ⟨h0, h1, h2, h3, h4, h5, h6, h7, h8, h9⟩ := hSw; go_simp; try with_reducible rfl
      simp only [Act.put, List.setIfInBounds_toArray, List.set_cons_zero, List.set_cons_succ]
      refine wpAnyH_take (i := 14) (oi := { dst := some 39, op := Go.Op.extract (Go.Operand.tmp 25) 0, type := 78, pos := "course.go:86", after := #[{ on := 13, ground := Go.Ground.data }], guard := none }) (v := ?vt515) rfl (by kernel_rfl) (by kernel_rfl) (by kernel_rfl) (fun _ _ _ h => h) (Or.inl ⟨by rfl, ?ht515⟩) hH513 ?_
      case ht515 => intro w hSw; obtain ⟨h0, h1, h2, h3, h4, h5, h6, h7, h8, h9⟩ := hSw; go_simp; try with_reducible rfl
      simp only [Act.put, List.setIfInBounds_toArray, List.set_cons_zero, List.set_cons_succ]
      refine wpAnyH_take (i := 15) (oi := { dst := some 40, op := Go.Op.extract (Go.Operand.tmp 25) 1, type := 4, pos := "course.go:86", after := #[{ on := 13, ground := Go.Ground.data }, { on := 16, ground := Go.Ground.gcOnly Go.Departure.lateStores }], guard := none }) (v := ?vt516) rfl (by kernel_rfl) (by kernel_rfl) (by kernel_rfl) (fun _ _ _ h => h) (Or.inl ⟨by rfl, ?ht516⟩) hH513 ?_
      case ht516 => intro w hSw; obtain ⟨h0, h1, h2, h3, h4, h5, h6, h7, h8, h9⟩ := hSw; go_simp; try with_reducible rfl
      simp only [Act.put, List.setIfInBounds_toArray, List.set_cons_zero, List.set_cons_succ]
      refine wpAnyH_ready (rs := [16]) (by kernel_rfl) (by simp) ?_
      refine AllReadyH.cons rfl (fun K hK => ?_) AllReadyH.nil
      go_simp
      obtain ⟨Z3, hZ3⟩ : ∃ Z3, ((((Z2.setCell ⟨be, 0, none⟩ (.int .i64 r')).setCell ⟨be, 1, none⟩ (.int .i64 i')).setCell ⟨be, 2, none⟩ (.int .i64 f')).setCell ⟨be, 3, none⟩ (.int .i64 q)).setCell ⟨be, 4, none⟩ (.int .i64 w') = Z3 := ⟨_, rfl⟩
      have hg3 : Z2.grownBy Z3 (some be) := by rw [← hZ3]; exact grown_setCellS (grown_setCellS (grown_setCellS (grown_setCellS (grown_setCellS (World.grownBy.refl _ _) _ _) _ _) _ _) _ _) _ _
      have HE3 : Hid (Blk Z3 be 78 #[.int .i64 r', .int .i64 i', .int .i64 f', .int .i64 q, .int .i64 w']) := Lib.hid (by rw [← hZ3]; exact ((((HE.out.set_ 0 _).set_ 1 _).set_ 2 _).set_ 3 _).set_ 4 _)
      have hne : some be ≠ v'.ownBlock := own_neV HE.out HO.out (by decide)
      replace HC := Lib.hid (HC.out.grown hg3 (fun e => by have h := Option.some.inj e; have := HGL.out; have := HBE.out; omega))
      replace HH := Lib.hid (rs_grownL HH.out hg3 (fun p hp => by have h := Option.some.inj hp; have := HBL.out; have := HBE.out; omega))
      replace HO := Lib.hid (HO.out.kept hg3 (.inr (fun e => hne e.symm)))
      replace HBW := Lib.hid (HBW.out.grown hg3 HBW.out.size (fun p hp => by have h := Option.some.inj hp; have := HBE.out; omega))
      have hSc := side_cells HC.out HH.out HQM.out HHX.out
      rw [hZ3]
      clear hZ3 hg3 hne HE
      refine hK.out _ _ ?_ (fun hH517 => ?_)
      · exact hSc
      clear hK K
      refine wpAnyH_done (by kernel_rfl) ?_ _
      obtain ⟨e0, e1, e2, e3, e4, -⟩ := HE3.out.five
      have hz3 := HBW.out.size
      obtain ⟨A9, c9, hv9, -⟩ := own_reads HO.out
      have HO9 := HO
      go_wp2
      go_roundw
      case rel =>
        refine ⟨t + 1, Z3.heap.size, A9, c9, r', i', f', q, w', by omega, by rw [hv9]; congr 1, by rfl, Lib.hid ?_, Lib.hid (Blk.new _ _ _), Lib.hid hz3, Lib.hid (HBW.out.alloc hz3 _), Lib.hid ?_⟩
        · have h := own_below HO9.out (below_a Z3 (.cells #[.int .i64 r', .int .i64 i', .int .i64 f', .int .i64 q, .int .i64 w'] 78))
          have hd : l.take (t + 1) = l.take t ++ [(r', i')] := by
            rw [List.take_succ_eq_append_getElem hlt]
            have := HDL.out
            rw [List.drop_eq_getElem_cons hlt] at this
            rw [(List.cons.inj this).1]
          rw [hd, show ((2, (j : Int)) : Smp) :: (l.take t ++ [(r', i')]) = ((2, (j : Int)) :: l.take t) ++ [(r', i')] from rfl, smpCells_snoc, show 1 + (t + 1) = 1 + t + 1 by omega]
          exact h
        · have hdl := HDL.out
          rw [List.drop_eq_getElem_cons hlt] at hdl
          have h2 := (List.cons.inj hdl).2
          rcases HNX.out with ⟨n1, n2⟩ | ⟨q2, s2, n1, n2⟩
          · refine .inl ⟨n1, ?_⟩
            rw [n2] at h2
            have := congrArg List.length h2
            simp at this; omega
          · exact .inr ⟨q2, s2, n1, by rw [h2]; exact n2⟩
      case measure => rw [HV.out, hv9]; simp only [lenOf]; omega
end Go.Proofs.Ytgdkcbnpgpjnbaa
