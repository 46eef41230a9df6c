/-
  Stampers in turn: inTurn of package press.
-/
import Derived.Test.YtomncopeekegoaaIF
import Derived.BigQuiet
import Derived.OneCell
namespace Go.Proofs.Ytomncopeekegoaa
open Go.RowKit

/-- The mounts from a place on; the first number says how many steps may be taken. -/
def mnt : Nat → List Int → List Int → Nat → Nat → Int → List Tri
  | 0, _, _, _, _, _ => []
  | f + 1, x, y, i, j, d =>
    if d ≤ 0 then [] else if x.getD i 0 = 0 then mnt f x y (i + 1) j d else if y.getD j 0 = 0 then mnt f x y i (j + 1) d
    else ((i : Int), (j : Int), min (min (x.getD i 0) (y.getD j 0)) d) :: mnt f (x.set i (x.getD i 0 - min (min (x.getD i 0) (y.getD j 0)) d)) (y.set j (y.getD j 0 - min (min (x.getD i 0) (y.getD j 0)) d)) i j (d - min (min (x.getD i 0) (y.getD j 0)) d)
/-- From a place on, so many discs can be pressed. -/
structure Fea (x y : List Int) (i j : Nat) (d : Int) : Prop where
  xb : ∀ u ∈ x, 0 ≤ u ∧ u ≤ 65536
  yb : ∀ u ∈ y, 0 ≤ u ∧ u ≤ 65536
  d0 : 0 ≤ d
  dx : d ≤ (x.drop i).sum
  dy : d ≤ (y.drop j).sum
theorem sum_drop {l : List Int} {i : Nat} (h : i < l.length) : (l.drop i).sum = l[i] + (l.drop (i + 1)).sum := by rw [List.drop_eq_getElem_cons h, List.sum_cons]
theorem sum_set_drop {l : List Int} {i : Nat} (v : Int) (h : i < l.length) : ((l.set i v).drop i).sum = v + (l.drop (i + 1)).sum := by
  rw [List.drop_eq_getElem_cons (by simpa using h), List.sum_cons, List.getElem_set_self, List.drop_set_of_lt (by omega)]
theorem getD_at {l : List Int} {i : Nat} (h : i < l.length) : l.getD i 0 = l[i] := by rw [List.getD_eq_getElem?_getD, List.getElem?_eq_getElem h]; rfl
theorem Fea.ix {x y : List Int} {i j : Nat} {d : Int} (h : Fea x y i j d) (hd : 0 < d) : i < x.length := by
  rcases Nat.lt_or_ge i x.length with h1 | h1
  · exact h1
  · have := h.dx; rw [List.drop_eq_nil_of_le h1] at this; simp at this; omega
theorem Fea.jy {x y : List Int} {i j : Nat} {d : Int} (h : Fea x y i j d) (hd : 0 < d) : j < y.length := by
  rcases Nat.lt_or_ge j y.length with h1 | h1
  · exact h1
  · have := h.dy; rw [List.drop_eq_nil_of_le h1] at this; simp at this; omega
theorem Fea.a {x y : List Int} {i j : Nat} {d : Int} (h : Fea x y i j d) (hd : 0 < d) (hz : x.getD i 0 = 0) : Fea x y (i + 1) j d :=
  ⟨h.xb, h.yb, h.d0, by have h1 := h.dx; have h2 := h.ix hd; rw [sum_drop h2] at h1; rw [getD_at h2] at hz; omega, h.dy⟩
theorem Fea.b {x y : List Int} {i j : Nat} {d : Int} (h : Fea x y i j d) (hd : 0 < d) (hz : y.getD j 0 = 0) : Fea x y i (j + 1) d :=
  ⟨h.xb, h.yb, h.d0, h.dx, by have h1 := h.dy; have h2 := h.jy hd; rw [sum_drop h2] at h1; rw [getD_at h2] at hz; omega⟩
theorem set_bd {x : List Int} {i : Nat} {v : Int} (h : ∀ u ∈ x, 0 ≤ u ∧ u ≤ 65536) (hv : 0 ≤ v ∧ v ≤ 65536) : ∀ u ∈ x.set i v, 0 ≤ u ∧ u ≤ 65536 := fun u hu => by
  rcases List.mem_or_eq_of_mem_set hu with h1 | h1
  · exact h u h1
  · rw [h1]; exact hv
/-- How many discs are pressed at a place. -/
def mny (x y : List Int) (i j : Nat) (d : Int) : Int := min (min (x.getD i 0) (y.getD j 0)) d
theorem mny_bd {x y : List Int} {i j : Nat} {d : Int} (h : Fea x y i j d) (hd : 0 < d) (hx : ¬ x.getD i 0 = 0) (hy : ¬ y.getD j 0 = 0) : 1 ≤ mny x y i j d ∧ mny x y i j d ≤ d ∧ mny x y i j d ≤ x.getD i 0 ∧ mny x y i j d ≤ y.getD j 0 ∧ x.getD i 0 ≤ 65536 ∧ y.getD j 0 ≤ 65536 := by
  have h1 := h.xb _ (List.getElem_mem (h.ix hd))
  have h2 := h.yb _ (List.getElem_mem (h.jy hd))
  rw [← getD_at (h.ix hd)] at h1
  rw [← getD_at (h.jy hd)] at h2
  unfold mny
  omega
theorem Fea.c {x y : List Int} {i j : Nat} {d : Int} (h : Fea x y i j d) (hd : 0 < d) (hx : ¬ x.getD i 0 = 0) (hy : ¬ y.getD j 0 = 0) :
    Fea (x.set i (x.getD i 0 - mny x y i j d)) (y.set j (y.getD j 0 - mny x y i j d)) i j (d - mny x y i j d) := by
  have hm := mny_bd h hd hx hy
  have h1 := h.ix hd
  have h2 := h.jy hd
  refine ⟨set_bd h.xb (by omega), set_bd h.yb (by omega), by omega, ?_, ?_⟩
  · rw [sum_set_drop _ h1]
    have := h.dx; rw [sum_drop h1, ← getD_at h1] at this; omega
  · rw [sum_set_drop _ h2]
    have := h.dy; rw [sum_drop h2, ← getD_at h2] at this; omega
theorem mnt_end (f : Nat) (x y : List Int) (i j : Nat) {d : Int} (h : d ≤ 0) : mnt f x y i j d = [] := by cases f <;> simp [mnt, h]
theorem mnt_a (f : Nat) {x y : List Int} {i j : Nat} {d : Int} (h : 0 < d) (hz : x.getD i 0 = 0) : mnt (f + 1) x y i j d = mnt f x y (i + 1) j d := by rw [mnt, if_neg (by omega), if_pos hz]
theorem mnt_b (f : Nat) {x y : List Int} {i j : Nat} {d : Int} (h : 0 < d) (hx : ¬ x.getD i 0 = 0) (hz : y.getD j 0 = 0) : mnt (f + 1) x y i j d = mnt f x y i (j + 1) d := by rw [mnt, if_neg (by omega), if_neg hx, if_pos hz]
theorem mnt_c (f : Nat) {x y : List Int} {i j : Nat} {d : Int} (h : 0 < d) (hx : ¬ x.getD i 0 = 0) (hz : ¬ y.getD j 0 = 0) :
    mnt (f + 1) x y i j d = ((i : Int), (j : Int), mny x y i j d) :: mnt f (x.set i (x.getD i 0 - mny x y i j d)) (y.set j (y.getD j 0 - mny x y i j d)) i j (d - mny x y i j d) := by rw [mnt, if_neg (by omega), if_neg hx, if_neg hz]; rfl

/-- A row of the call's own at an index: what lies there, and what a store leaves. -/
theorem own_at2 {w : World} {base n : Nat} {v : Value} {x : List Int} (h : w.ownsRow base 2 1 v n (nums x)) {j : Nat} (hj : j < x.length) :
    ∃ g c, v = .slice (some ⟨g, 0, none⟩) n c ∧ base ≤ g ∧ g < w.heap.size ∧ n = x.length ∧ w.cell? ⟨g, j, none⟩ = some (.int .i64 (x.getD j 0)) ∧ w.frozen? ⟨g, j, none⟩ = false ∧
      ∀ u : Int, (w.setCell ⟨g, j, none⟩ (.int .i64 u)).ownsRow base 2 1 (.slice (some ⟨g, 0, none⟩) n c) n (nums (x.set j u)) := by
  have hln : n = x.length := by have := h.1; simpa using this.symm
  rcases h.2 with ⟨-, hn⟩ | ⟨g, cap, cur, rfl, hb, hg, hnc, hcm, hcs, htk⟩
  · omega
  have hlt : g < w.heap.size := (Array.getElem?_eq_some_iff.1 hg).1
  have hcur : cur[j]? = some (.int .i64 (x.getD j 0)) := by
    have h1 : (cur.toList.take (n * 1))[j]? = (nums x)[j]? := by rw [htk]
    rw [List.getElem?_take_of_lt (by omega)] at h1
    rw [← Array.getElem?_toList, h1, List.getElem?_map, List.getElem?_eq_getElem hj, getD_at hj]
    rfl
  refine ⟨g, cap, rfl, hb, hlt, hln, (Blk.cell (w := w) (g := g) (t := 2) (cs := cur) hg j).trans hcur, Blk.frozen (w := w) (g := g) (t := 2) (cs := cur) hg j, fun u => ⟨by simp [hln], .inr ⟨g, cap, cur.setIfInBounds j (.int .i64 u), rfl, hb, Blk.set_ (w := w) (g := g) (t := 2) (cs := cur) hg j _, hnc, hcm, by simp [hcs], ?_⟩⟩⟩
  rw [Array.toList_setIfInBounds, List.take_set, htk]
  exact List.map_set.symm
theorem _root_.Go.World.ownsRow.drewN_ {w : World} {base n size : Nat} {t : TypeId} {v : Value} {xs : List Value} (h : w.ownsRow base t size v n xs) (k : Nat) : (w.drewN k).ownsRow base t size v n xs := h
theorem info_mnt : (Try.prog.info? 63).map (fun i => (i.zero, i.size, i.bytes)) = some (some (.agg #[.int .i64 0, .int .i64 0, .int .i64 0]), 3, 24) := by kernel_rfl

set_option maxRecDepth 100000 in
set_option maxHeartbeats 8000000 in
theorem inTurn_any (base : Nat) (va vb : Value) (na nb : Nat) (x0 y0 : List Int) (d0 : Int) (w : World) (ha : w.ownsRow base 2 1 va na (nums x0)) (hb : w.ownsRow base 2 1 vb nb (nums y0)) (hap : Apart va vb) (hbs : base ≤ w.heap.size)
    (hf : Fea x0 y0 0 0 d0) (hx : x0.length ≤ 64) (hy : y0.length ≤ 64) (hd : d0 ≤ 1073741824) :
    Calls Try.prog 65 #[va, vb, .int .i64 d0] w fun e w' => ∃ v, e = .returned v ∧ ∃ n, w'.ownsRow w.heap.size 63 3 v n (triCells (mnt (d0.toNat + x0.length + y0.length) x0 y0 0 0 d0)) ∧ Below base w w' := by
  obtain ⟨i0, hi0, hz0, hz1, hz2⟩ := info_parts info_mnt
  have HI0 := Lib.hid hi0
  have HZ0 := Lib.hid hz0
  have HZ1 := Lib.hid hz1
  have HZ2 := Lib.hid hz2
  have HA := Lib.hid ha
  have HB := Lib.hid hb
  have HAP := Lib.hid hap
  have HF := Lib.hid hf
  have hd0 := hf.d0
  have HLA := Lib.hid (fun g (hg : va.ownBlock = some g) => (ha.lt g hg).2)
  have HLB := Lib.hid (fun g (hg : vb.ownBlock = some g) => (hb.lt g hg).2)
  obtain ⟨M, hM⟩ : ∃ M, d0.toNat + x0.length + y0.length = M := ⟨_, rfl⟩
  obtain ⟨R, hR⟩ : ∃ R, mnt M x0 y0 0 0 d0 = R := ⟨_, rfl⟩
  have HR : Hid (([] : List Tri) ++ mnt M x0 y0 0 0 d0 = R) := Lib.hid (by simpa using hR)
  rw [hM, hR]
  have hM2 : M ≤ 1073742000 := by omega
  have HM := Lib.hid hM
  obtain ⟨lx, hlx⟩ : ∃ lx, x0.length = lx := ⟨_, rfl⟩
  obtain ⟨ly, hly⟩ : ∃ ly, y0.length = ly := ⟨_, rfl⟩
  rw [hlx] at hx
  rw [hly] at hy
  have HX := Lib.hid hlx
  have HY := Lib.hid hly
  clear hi0 hz0 hz1 hz2 ha hb hap hf hR hlx hly hM
  go_enter Try.func65, Try.ntmps65
  go_wp2
  go_loopw [2, 7, 8, 9] (fun dv lv iv jv wr => ∃ (f : Nat) (x y : List Int) (i j : Nat) (d : Int) (acc : List Tri) (sv : Value), dv = .int .i64 d ∧ iv = .int .i64 i ∧ jv = .int .i64 j ∧ sv = lv ∧ x.length = lx ∧ y.length = ly ∧ d.toNat + (lx - i) + (ly - j) ≤ f ∧ acc.length + f ≤ M ∧ 0 ≤ d ∧ d ≤ 1073741824 ∧ Hid (Fea x y i j d) ∧ Hid (acc ++ mnt f x y i j d = R) ∧
      Hid (wr.ownsRow base 2 1 va na (nums x)) ∧ Hid (wr.ownsRow base 2 1 vb nb (nums y)) ∧ Hid (wr.ownsRow w.heap.size 63 3 sv acc.length (triCells acc)) ∧ Hid (Below base w wr) ∧ w.heap.size ≤ wr.heap.size) (fun dv _ iv jv _ => (intOf dv).toNat + (lx - (intOf iv).toNat) + (ly - (intOf jv).toNat))
  case atStart => exact ⟨M, x0, y0, 0, 0, d0, [], _, rfl, rfl, rfl, rfl, HX.out, HY.out, by have := HM.out; have := HX.out; have := HY.out; omega, by simp, hd0, hd, HF, HR, HA, HB, Lib.hid (World.ownsRow_nil _ _ _ _), Lib.hid (Below.refl _ _), Nat.le_refl _⟩
  case round =>
    clear HA HB HF HR HM HX HY
    obtain ⟨f, x, y, i, j, d, acc, sv, rfl, rfl, rfl, rfl, hxl, hyl, hfm, haf, hd0', hd1, HF, HR, HA, HB, HL, HBW, hsz⟩ := hrel
    by_cases hpos : 0 < d
    · have hix := HF.out.ix hpos
      have hjy := HF.out.jy hpos
      rw [hxl] at hix
      rw [hyl] at hjy
      obtain ⟨f', rfl⟩ : ∃ f', f = f' + 1 := ⟨f - 1, by omega⟩
      obtain ⟨ga, ca, rfl, hga, hga2, hna, ca1, ca2, hsa⟩ := own_at2 HA.out (show i < x.length by omega)
      obtain ⟨gb, cb, rfl, hgb, hgb2, hnb, cb1, cb2, hsb⟩ := own_at2 HB.out (show j < y.length by omega)
      have hgab : gb ≠ ga := by have := HAP.out ga rfl; intro e; rw [e] at this; exact this rfl
      have g1 : (i : Int) < (na : Int) := by omega
      have g2 : (j : Int) < (nb : Int) := by omega
      have HXL := Lib.hid hxl
      have HYL := Lib.hid hyl
      have hixx : i < x.length := by omega
      have hjyy : j < y.length := by omega
      clear hna hnb hxl hyl
      have w1 : IntKind.i64.wrap ((i : Int) + 1) = (i : Int) + 1 := IntWalk.i64_in _ (by omega)
      have w2 : IntKind.i64.wrap ((j : Int) + 1) = (j : Int) + 1 := IntWalk.i64_in _ (by omega)
      by_cases hxz : x.getD i 0 = 0
      · have HFN := Lib.hid (HF.out.a hpos hxz)
        have HRN : Hid (acc ++ mnt f' x y (i + 1) j d = R) := Lib.hid (by rw [← mnt_a f' hpos hxz]; exact HR.out)
        rw [hxz] at ca1
        clear hxz
        go_wp2
        go_roundw
        case rel => exact ⟨f', x, y, i + 1, j, d, acc, _, rfl, by go_num, rfl, rfl, HXL.out, HYL.out, by omega, by omega, hd0', hd1, HFN, HRN, HA, HB, HL, HBW, hsz⟩
        case measure => simp [intOf]; omega
      · have HXZ := Lib.hid hxz
        obtain ⟨xi, hxi⟩ : ∃ xi, x.getD i 0 = xi := ⟨_, rfl⟩
        have q1 : ¬ xi = 0 := hxi ▸ hxz
        have q1' : (xi == 0) = false := beq_eq_false_iff_ne.2 q1
        by_cases hyz : y.getD j 0 = 0
        · have HFN := Lib.hid (HF.out.b hpos hyz)
          have HRN : Hid (acc ++ mnt f' x y i (j + 1) d = R) := Lib.hid (by rw [← mnt_b f' hpos hxz hyz]; exact HR.out)
          rw [hyz] at cb1
          rw [hxi] at ca1
          clear hyz hxz hxi
          go_wp2
          go_roundw
          case rel => exact ⟨f', x, y, i, j + 1, d, acc, _, rfl, rfl, by go_num, rfl, HXL.out, HYL.out, by omega, by omega, hd0', hd1, HFN, HRN, HA, HB, HL, HBW, hsz⟩
          case measure => simp [intOf]; omega
        · have hm := mny_bd HF.out hpos hxz hyz
          have HFN := Lib.hid (HF.out.c hpos hxz hyz)
          have hrn := HR.out
          rw [mnt_c f' hpos hxz hyz] at hrn
          have hmd : min (min (x.getD i 0) (y.getD j 0)) d = mny x y i j d := rfl
          obtain ⟨m, hmm⟩ : ∃ m, mny x y i j d = m := ⟨_, rfl⟩
          rw [hmm] at hm HFN hrn hmd
          obtain ⟨yj, hyj⟩ : ∃ yj, y.getD j 0 = yj := ⟨_, rfl⟩
          have q2 : ¬ yj = 0 := hyj ▸ hyz
          have q2' : (yj == 0) = false := beq_eq_false_iff_ne.2 q2
          rw [hxi, hyj] at hm HFN hrn hmd
          rw [hxi] at ca1
          rw [hyj] at cb1
          have HRN := Lib.hid hrn
          have HSA := Lib.hid hsa
          have HSB := Lib.hid hsb
          have w3 : IntKind.i64.wrap (xi - m) = xi - m := IntWalk.i64_in _ (by omega)
          have w4 : IntKind.i64.wrap (yj - m) = yj - m := IntWalk.i64_in _ (by omega)
          have w5 : IntKind.i64.wrap (d - m) = d - m := IntWalk.i64_in _ (by omega)
          have w6 : (if d < if yj < xi then yj else xi then d else if yj < xi then yj else xi) = m := by rw [← hmd]; by_cases a1 : yj < xi <;> simp only [a1, if_true, if_false] <;> split <;> omega
          have hxi_ := hxi
          have hyj_ := hyj
          clear hrn hmm hyz hxz hsa hsb hmd hxi hyj
          have HXI := Lib.hid hxi_
          have HYJ := Lib.hid hyj_
          clear hxi_ hyj_
          go_wp2_with fail
          go_quiet (fail)
          go_wp2_with (at_builtin; refine wpList_append_own _ rfl (.tmp 23) (.tmp 28) _ rfl w.heap.size 63 i0 _ 3 24 Try.underlying59 HI0.out HZ0.out HZ1.out HZ2.out rfl (by omega) _ acc.length (triCells acc) rfl (HL.out.drewN_ _ |>.alloc _) ⟨wr.heap.size, 0, none⟩ 1 1 [.int .i64 i, .int .i64 j, .int .i64 m] rfl rfl (nine_new _ _ _) ?c1 ?c2 ?c3 ?c4 ?_)
          case c1 => first | rfl | (intro x hx; simp at hx; rcases hx with rfl | rfl | rfl <;> rfl)
          case c2 => simp only [maxLen]; omega
          case c3 => omega
          case c4 => first | omega | (simp; omega)
          intro v' w4 hown' hgrow hblk
          have hal := HLA.out ga rfl
          have hbl := HLB.out gb rfl
          have hlr := fun g (hg : sv.ownBlock = some g) => (HL.out.lt g hg).1
          have HA4 := Lib.hid (((HA.out.drewN_ nq).alloc (.cells #[.int .i64 i, .int .i64 j, .int .i64 m] 63)).kept hgrow (.inr (fun e => by have := hlr ga (by rw [← e]; rfl); omega)))
          have HB4 := Lib.hid (((HB.out.drewN_ nq).alloc (.cells #[.int .i64 i, .int .i64 j, .int .i64 m] 63)).kept hgrow (.inr (fun e => by have := hlr gb (by rw [← e]; rfl); omega)))
          have hown5 : w4.ownsRow w.heap.size 63 3 v' (acc ++ [((i : Int), (j : Int), m)]).length (triCells (acc ++ [((i : Int), (j : Int), m)])) := by
            rw [triCells_snoc, List.length_append]; exact hown'
          have hb4 : Below base w w4 := ((below_drewN_ HBW.out nq).alloc (by show base ≤ wr.heap.size; omega) (.cells #[.int .i64 i, .int .i64 j, .int .i64 m] 63)).grown hgrow (by simp; show base ≤ wr.heap.size + 1; omega) (fun g hg => by have := hlr g hg; omega)
          have hs4 : w.heap.size ≤ w4.heap.size := by have := hgrow.size; simp at this; omega
          have hvl : ∀ g, v'.ownBlock = some g → w.heap.size ≤ g := fun g hg => (hown5.lt g hg).1
          have hrn : (acc ++ [((i : Int), (j : Int), m)]) ++ mnt f' (x.set i (xi - m)) (y.set j (yj - m)) i j (d - m) = R := by rw [List.append_assoc]; exact HRN.out
          obtain ⟨ga', ca', ea, -, hga4, -, ca3, ca4, hsa4⟩ := own_at2 HA4.out hixx
          simp only [Value.slice.injEq, Option.some.injEq, Addr.mk.injEq, and_true, true_and] at ea
          obtain ⟨rfl, rfl⟩ := ea
          have hsA := hsa4 (xi - m)
          obtain ⟨W5, hW5⟩ : ∃ W5, w4.setCell ⟨ga, i, none⟩ (.int .i64 (xi - m)) = W5 := ⟨_, rfl⟩
          have HB5 : W5.ownsRow base 2 1 (.slice (some ⟨gb, 0, none⟩) nb cb) nb (nums y) := by rw [← hW5]; exact ownsRow_setCell_other HB4.out (by simp [Value.ownBlock]; exact hgab) _
          rw [hW5] at hsA
          obtain ⟨gb', cb', eb, -, hgb4, -, cb3, cb4, hsb4⟩ := own_at2 HB5 hjyy
          simp only [Value.slice.injEq, Option.some.injEq, Addr.mk.injEq, and_true, true_and] at eb
          obtain ⟨rfl, rfl⟩ := eb
          have hsB := hsb4 (yj - m)
          have HA6 := Lib.hid (ownsRow_setCell_other hsA (a := ⟨gb, j, none⟩) (by simp [Value.ownBlock]; exact fun e => hgab e.symm) (.int .i64 (yj - m)))
          have hL5 : W5.ownsRow w.heap.size 63 3 v' (acc ++ [((i : Int), (j : Int), m)]).length (triCells (acc ++ [((i : Int), (j : Int), m)])) := by rw [← hW5]; exact ownsRow_setCell_other hown5 (fun e => by have := hvl _ e; dsimp only at this; omega) _
          have HL6 := Lib.hid (ownsRow_setCell_other hL5 (a := ⟨gb, j, none⟩) (fun e => by have := hvl _ e; dsimp only at this; omega) (.int .i64 (yj - m)))
          have hb5 : Below base w W5 := by rw [← hW5]; exact hb4.setCell (p := ⟨ga, i, none⟩) hga _
          have HB6 := Lib.hid hsB
          have HBW6 := Lib.hid (hb5.setCell (p := ⟨gb, j, none⟩) hgb (.int .i64 (yj - m)))
          have hs5 : w.heap.size ≤ W5.heap.size := by rw [← hW5]; simpa [World.setCell] using hs4
          rw [HXI.out] at ca3
          rw [HYJ.out] at cb3
          have HRN' := Lib.hid hrn
          clear hrn hown' hown5 hgrow hblk hsa4 hsA hsb4 hsB hL5 hb4 hb5 HB5 HA4 HB4 hvl hlr
          have cb5 : (w4.setCell ⟨ga, i, none⟩ (.int .i64 (xi - m))).cell? ⟨gb, j, none⟩ = some (.int .i64 yj) := by rw [hW5]; exact cb3
          have cb6 : (w4.setCell ⟨ga, i, none⟩ (.int .i64 (xi - m))).frozen? ⟨gb, j, none⟩ = false := by rw [hW5]; exact cb4
          have cb7 : w4.cell? ⟨gb, j, none⟩ = some (.int .i64 yj) := by rw [← cb5]; exact (World.cell?_setCell_other _ _ _ _ (by simp)).symm
          have cb8 : w4.frozen? ⟨gb, j, none⟩ = false := by rw [← cb6]; exact (World.frozen?_setCell _ _ _ _).symm
          have HW5 := Lib.hid hW5
          clear hW5 cb3 cb4
          go_wp2
          go_roundw
          case rel => exact ⟨f', x.set i (xi - m), y.set j (yj - m), i, j, d - m, acc ++ [((i : Int), (j : Int), m)], _, rfl, rfl, rfl, rfl, by rw [List.length_set]; exact HXL.out, by rw [List.length_set]; exact HYL.out, by omega, by simp; omega, by omega, by omega, HFN, HRN', by rw [HW5.out]; exact HA6, by rw [HW5.out]; exact HB6, by rw [HW5.out]; exact HL6, by rw [HW5.out]; exact HBW6, by rw [HW5.out]; simpa [World.setCell] using hs5⟩
          case measure => simp [intOf]; omega
    · have hz : d ≤ 0 := by omega
      have HE : Hid (acc = R) := Lib.hid (by have := HR.out; rw [mnt_end f x y i j hz] at this; simpa using this)
      go_wp2
      go_ret
      exact ⟨_, rfl, ⟨_, HE.out ▸ HL.out⟩, HBW.out⟩
end Go.Proofs.Ytomncopeekegoaa
