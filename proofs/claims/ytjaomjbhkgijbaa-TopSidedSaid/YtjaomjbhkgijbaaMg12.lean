/-
  append onto a row of the call's own, whatever the source.
-/
import Derived.Test.YtjaomjbhkgijbaaMg1
import Derived.Maps.AppendAt
import Derived.Deep.AppendLies
import Derived.RegionTactic
import Derived.OwnWalk
import Derived.Test.YtjaomjbhkgijbaaMg3
import Derived.Test.YtjaomjbhkgijbaaMg11
import Derived.Deep.RegionHeld3

namespace Go.Proofs.Ytjaomjbhkgijbaa
open Go.RowKit

section
variable {P : Program} (w : World)

theorem run_append_of_nil (base : Nat) (t ty e : TypeId) (i : TypeInfo) (size : Nat) (ht : P.underlying t = some (.slice e)) (hi : P.info? e = some i)
    (v : Value) (n : Nat) (xs : List Value) (hown : w.ownsRow base e size v n xs) (c : Nat) : (Builtin.append_ #[t, t] ty #[v, .slice none 0 c]).run P w = .ok v w := by
  rcases hown.2 with ⟨rfl, rfl⟩ | ⟨g, cap, cur, rfl, _, _, hnc, _⟩
  · simp [Builtin.append_, run_underlying ht, sizeOf, typeInfo, hi, Builtin.lenOf, Builtin.firstCells]
  · simp [Builtin.append_, run_underlying ht, sizeOf, typeInfo, hi, Builtin.lenOf, Builtin.firstCells, hnc, storeCells]

theorem run_append_any (base : Nat) (t ty e : TypeId) (i : TypeInfo) (z : Value) (size bytes : Nat) (ht : P.underlying t = some (.slice e)) (hi : P.info? e = some i) (hz : i.zero = some z)
    (hsize : i.size = size) (hby : i.bytes = bytes) (hzs : z.cells.size = size) (hsz : 0 < size)
    (v : Value) (n : Nat) (xs : List Value) (hown : w.ownsRow base e size v n xs)
    (B : Nat) (A : Option Addr) (m c : Nat) (news : List Value) (hr : Reads w B size A m news) (h1 : ∀ u ∈ news, u.oneCell' = true)
    (h63 : n + m ≤ maxLen) (hbytes : (n + m) * bytes ≤ 140737488355328) (hbase : base ≤ w.heap.size) :
    ∃ v' w', (Builtin.append_ #[t, t] ty #[v, .slice A m c]).run P w = .ok v' w' ∧ w'.ownsRow base e size v' (n + m) (xs ++ news) ∧ w.grownBy w' v.ownBlock ∧
      (v'.ownBlock = v.ownBlock ∨ v'.ownBlock = some w.heap.size) := by
  rcases A with _ | ad
  · have hm : m = 0 := by
      rcases Nat.eq_zero_or_pos m with h0 | h0
      · exact h0
      · obtain ⟨ad, h, _⟩ := hr.2 h0
        cases h
    subst hm
    have hn : news = [] := List.eq_nil_of_length_eq_zero (by simpa using hr.1)
    subst hn
    exact ⟨v, w, run_append_of_nil w base t ty e i size ht hi v n xs hown c, by simpa using hown, World.grownBy.refl w _, .inl rfl⟩
  · have hcells : ∀ j u, news[j]? = some u → w.cell? (ad.add j) = some u := by
      intro j u hu
      rcases Nat.eq_zero_or_pos m with h0 | h0
      · subst h0
        have hn : news = [] := List.eq_nil_of_length_eq_zero (by simpa using hr.1)
        subst hn
        simp at hu
      · obtain ⟨ad', h, _, hc⟩ := hr.2 h0
        injection h with h
        subst h
        exact hc j u hu
    obtain ⟨v', w', hrun, h2, h3, _, h5⟩ := run_append_own_at (P := P) w base t ty e i z size bytes ht hi hz hsize hby hzs hsz v n xs hown ad m c news hr.1 hcells h1 h63 hbytes hbase
    exact ⟨v', w', hrun, h2, h3, h5⟩

theorem wp_append_any {o : Oper} {a : Act} {K : Act → World → Prop} {Q : Exit → Act → World → Prop} (s x : Operand) (t : TypeId)
    (ho : o.op = .call { callee := .builtin .append, args := #[s, x], argTypes := #[t, t] })
    (base : Nat) (e : TypeId) (i : TypeInfo) (z : Value) (size bytes : Nat) (ht : P.underlying t = some (.slice e)) (hi : P.info? e = some i) (hz : i.zero = some z)
    (hsize : i.size = size) (hby : i.bytes = bytes) (hzs : z.cells.size = size) (hsz : 0 < size)
    (v : Value) (n : Nat) (xs : List Value) (hs : a.eval s = v) (hown : w.ownsRow base e size v n xs)
    (B : Nat) (A : Option Addr) (m c : Nat) (news : List Value) (hx : a.eval x = .slice A m c) (hr : Reads w B size A m news) (h1 : ∀ u ∈ news, u.oneCell' = true)
    (h63 : n + m ≤ maxLen) (hbytes : (n + m) * bytes ≤ 140737488355328) (hbase : base ≤ w.heap.size)
    (h : ∀ v' w', w'.ownsRow base e size v' (n + m) (xs ++ news) → w.grownBy w' v.ownBlock → (v'.ownBlock = v.ownBlock ∨ v'.ownBlock = some w.heap.size) → K (a.put o.dst v') w') : o.wp P a w K Q := by
  obtain ⟨v', w', hrun, h2, h3, h4⟩ := run_append_any (P := P) w base t o.type e i z size bytes ht hi hz hsize hby hzs hsz v n xs hown B A m c news hr h1 h63 hbytes hbase
  unfold Oper.wp execOp
  simp only [ho, resolve, invoke, builtin, Sem.run_bind, Sem.run_pure, Result.andThen_ok, List.map_toArray, List.map_cons, List.map_nil, hs, hx, hrun]
  exact h v' w' h2 h3 h4

theorem wpList_append_any {ops : Array Oper} {rest : List Oper} {o : Oper} {a : Act} {Q : Exit → Act → World → Prop} (hgd : o.guard = none) (s x : Operand) (t : TypeId)
    (ho : o.op = .call { callee := .builtin .append, args := #[s, x], argTypes := #[t, t] })
    (base : Nat) (e : TypeId) (i : TypeInfo) (z : Value) (size bytes : Nat) (ht : P.underlying t = some (.slice e)) (hi : P.info? e = some i) (hz : i.zero = some z)
    (hsize : i.size = size) (hby : i.bytes = bytes) (hzs : z.cells.size = size) (hsz : 0 < size)
    (v : Value) (n : Nat) (xs : List Value) (hs : a.eval s = v) (hown : w.ownsRow base e size v n xs)
    (B : Nat) (A : Option Addr) (m c : Nat) (news : List Value) (hx : a.eval x = .slice A m c) (hr : Reads w B size A m news) (h1 : ∀ u ∈ news, u.oneCell' = true)
    (h63 : n + m ≤ maxLen) (hbytes : (n + m) * bytes ≤ 140737488355328) (hbase : base ≤ w.heap.size)
    (h : ∀ v' w', w'.ownsRow base e size v' (n + m) (xs ++ news) → w.grownBy w' v.ownBlock → (v'.ownBlock = v.ownBlock ∨ v'.ownBlock = some w.heap.size) → wpList P ops Q rest (a.put o.dst v') w') : wpList P ops Q (o :: rest) a w :=
  wpList_plain hgd fun _ hK => wp_append_any w s x t ho base e i z size bytes ht hi hz hsize hby hzs hsz v n xs hs hown B A m c news hx hr h1 h63 hbytes hbase fun v' w' h2 h3 h4 => hK _ _ (h v' w' h2 h3 h4)

theorem step_append_any {ops : Array Oper} {o : Oper} {a : Act} {K : Act → World → Prop} {Q : Exit → Act → World → Prop} {E : Prop} (hgd : o.guard = none) (s x : Operand) (t : TypeId)
    (ho : o.op = .call { callee := .builtin .append, args := #[s, x], argTypes := #[t, t] })
    (base : Nat) (e : TypeId) (i : TypeInfo) (z : Value) (size bytes : Nat) (ht : P.underlying t = some (.slice e)) (hi : P.info? e = some i) (hz : i.zero = some z)
    (hsize : i.size = size) (hby : i.bytes = bytes) (hzs : z.cells.size = size) (hsz : 0 < size)
    (v : Value) (n : Nat) (xs : List Value) (hs : a.eval s = v) (hown : w.ownsRow base e size v n xs)
    (B : Nat) (A : Option Addr) (m c : Nat) (news : List Value) (hx : a.eval x = .slice A m c) (hr : Reads w B size A m news) (h1 : ∀ u ∈ news, u.oneCell' = true)
    (h63 : n + m ≤ maxLen) (hbytes : (n + m) * bytes ≤ 140737488355328) (hbase : base ≤ w.heap.size)
    (h : ∀ v' w', w'.ownsRow base e size v' (n + m) (xs ++ news) → w.grownBy w' v.ownBlock → (v'.ownBlock = v.ownBlock ∨ v'.ownBlock = some w.heap.size) → K (a.put o.dst v') w') :
    if Region.wanted o (yielded ops a.tmps) = true then Oper.wp P o a w K Q else E := by
  have hw : Region.wanted o (yielded ops a.tmps) = true := by simp [Region.wanted, hgd]
  rw [if_pos hw]
  exact wp_append_any w s x t ho base e i z size bytes ht hi hz hsize hby hzs hsz v n xs hs hown B A m c news hx hr h1 h63 hbytes hbase h
end
end Go.Proofs.Ytjaomjbhkgijbaa

/-
  Words for rows that lie apart, rows that are written down, blocks.
-/
namespace Go.Proofs.Ytjaomjbhkgijbaa
open Go.RowKit

theorem info_pt : (Try.prog.info? 77).map (fun i => (i.zero, i.size, i.bytes)) = some (some (.agg #[.int .i64 0, .int .i64 0]), 2, 16) := by kernel_rfl
/-- Two rows that lie apart. -/
def Apart (a b : Value) : Prop := ∀ g, a.ownBlock = some g → b.ownBlock ≠ some g
theorem Apart.symm {a b : Value} (h : Apart a b) : Apart b a := fun g hb ha => h g ha hb
theorem Apart.ne {a b : Value} (h : Apart a b) : a.ownBlock = none ∨ a.ownBlock ≠ b.ownBlock := by
  cases ha : a.ownBlock with
  | none => exact .inl rfl
  | some g => exact .inr (fun e => h g ha e.symm)
theorem Apart.new {a b b' : Value} {H : Nat} (h : Apart a b) (hl : ∀ g, a.ownBlock = some g → g < H) (hb : b'.ownBlock = b.ownBlock ∨ b'.ownBlock = some H) : Apart a b' := fun g ha e => by
  rcases hb with hb | hb
  · exact h g ha (hb ▸ e)
  · rw [hb] at e; cases e; exact absurd (hl _ ha) (by omega)
theorem own_lit (w : World) (t : TypeId) (base n size : Nat) (cs : Array Value) (hb : base ≤ w.heap.size) (hs : cs.size = n * size) (hn : n ≤ maxLen) : (w.alloc (.cells cs t)).ownsRow base t size (.slice (some ⟨w.heap.size, 0, none⟩) n n) n cs.toList :=
  ⟨by simpa using hs, .inr ⟨w.heap.size, n, cs, rfl, hb, heap_alloc_new w _, Nat.le_refl _, hn, hs, by rw [List.take_of_length_le (by simp [hs])]⟩⟩
theorem smp_one (xs : List Smp) : ∀ u ∈ smpCells xs, u.oneCell' = true := by
  intro u hu
  unfold smpCells at hu
  rw [List.mem_flatMap] at hu
  obtain ⟨s, -, hs⟩ := hu
  simp only [List.mem_cons, List.not_mem_nil, or_false] at hs
  rcases hs with rfl | rfl <;> rfl
theorem below_ad (W : World) (o : Obj) : Below W.heap.size W (W.alloc o).drew := ((Below.refl _ _).alloc (Nat.le_refl _) o).drew
theorem below_a (W : World) (o : Obj) : Below W.heap.size W (W.alloc o) := (Below.refl _ _).alloc (Nat.le_refl _) o
theorem below_da (W : World) (o : Obj) : Below W.heap.size W (W.drew.alloc o) := ((Below.refl _ _).drew).alloc (Nat.le_refl _) o
end Go.Proofs.Ytjaomjbhkgijbaa

/-
  Words of the statements that join layers: the amount of a number, samples with two channels.
-/
namespace Go.Proofs.Ytjaomjbhkgijbaa
open Go.RowKit

theorem topAmount_any (x : Int) (w : World) (h1 : -9223372036854775807 ≤ x) (h2 : x ≤ 9223372036854775807) :
    Calls Try.prog 79 #[.int .i64 x] w fun e w' => e = .returned (.int .i64 (am x)) ∧ w = w' := by
  go_enter Try.func79, Try.ntmps79
  go_wp2
  all_goals
    go_ret
    exact ⟨ret_i (by rw [am]; omega), rfl⟩

set_option maxRecDepth 100000 in
set_option maxHeartbeats 4000000 in
theorem joined_any (B : Nat) (A A' : Option Addr) (n k k' : Nat) (xs ys : List Int) (w : World) (hx : LI w B A n xs) (hy : LI w B A' n ys) (hB : B ≤ w.heap.size) (hn : n ≤ 4096) :
    Calls Try.prog 80 #[.slice A n k, .slice A' n k'] w fun e w' => ∃ v, e = .returned v ∧ w'.ownsRow w.heap.size 75 2 v n (smpCells (xs.zip ys)) ∧ Below w.heap.size w w' := by
  have HX := Lib.hid (hx.more hB)
  have HY := Lib.hid (hy.more hB)
  have HNX := Lib.hid hx.1
  have HNY := Lib.hid hy.1
  have hzl : (xs.zip ys).length = n := by rw [List.length_zip, ← hx.1, ← hy.1]; omega
  have HZL := Lib.hid hzl
  clear hx hy hB hzl
  obtain ⟨i0, hi0, hz0, hz1, hz2⟩ := info_parts info_smp
  have HI0 := Lib.hid hi0
  have HZ0 := Lib.hid hz0
  have HZ1 := Lib.hid hz1
  have HZ2 := Lib.hid hz2
  clear hi0 hz0 hz1 hz2
  go_enter Try.func80, Try.ntmps80
  go_wp2_with fail
  go_loopw [5, 6] (fun vp i wr => ∃ (j : Nat) (sp : Value), j ≤ n ∧ i = .int .i64 j ∧ sp = vp ∧ Hid (wr.ownsRow w.heap.size 75 2 sp j (smpCells ((xs.zip ys).take j))) ∧ Hid (Below w.heap.size w wr)) (fun _ i wr => n - (intOf i).toNat)
  case atStart => exact ⟨0, _, Nat.zero_le _, rfl, rfl, Lib.hid (World.ownsRow_nil _ _ _ _), Lib.hid (Below.refl _ _)⟩
  case round =>
    obtain ⟨j, sp, hj, rfl, rfl, HO, HB⟩ := hrel
    by_cases hlt : j < n
    · have hjx : j < xs.length := by have := HNX.out; omega
      have hjy : j < ys.length := by have := HNY.out; omega
      have hjz : j < (xs.zip ys).length := by have := HZL.out; omega
      obtain ⟨am, hA1, -, h1⟩ := (HX.out.below HB.out (Nat.le_refl _)).at_ (k := j) hjx
      obtain ⟨ad, hA2, -, h2⟩ := (HY.out.below HB.out (Nat.le_refl _)).at_ (k := j) hjy
      obtain rfl := hA1
      obtain rfl := hA2
      obtain ⟨Ap, cp, rfl, -⟩ := own_reads HO.out
      have HSN : Hid (smpCells ((xs.zip ys).take (j + 1)) = smpCells ((xs.zip ys).take j) ++ [.int .i64 xs[j], .int .i64 ys[j]]) := Lib.hid (by rw [List.take_succ_eq_append_getElem hjz, List.getElem_zip, smpCells_snoc])
      obtain ⟨l, hl⟩ : ∃ m, xs[j] = m := ⟨_, rfl⟩
      obtain ⟨r, hr⟩ : ∃ m, ys[j] = m := ⟨_, rfl⟩
      rw [hl] at h1 HSN
      have HL := Lib.hid hl
      rw [hr] at h2 HSN
      have HR := Lib.hid hr
      have hs0 := HB.out.size
      clear hl hr
      go_wp2_with fail
      go_region_held3 (fun w' => w'.cell? (am.add j) = some (.int .i64 l) ∧ w'.cell? (ad.add j) = some (.int .i64 r))
        ((refine ⟨?_, ?_⟩ <;> (repeat (with_reducible (first | refine cell_al _ ?_ | refine cell_dr ?_))) <;> (with_reducible assumption)))
        (first | (refine step_append_any _ rfl (.tmp 19) (.tmp 29) _ rfl w.heap.size 75 i0 _ 2 16 Try.underlying55 HI0.out HZ0.out HZ1.out HZ2.out rfl (by omega) (.slice Ap j cp) j _ rfl (by first | exact (own_below HO.out (below_ad _ _)) | exact (own_below HO.out (below_da _ _)) | exact (own_below HO.out (below_a _ _))) _ _ 1 _ _ rfl (reads_cells (by first | exact blk_al rfl | exact blk_dr rfl) (Nat.lt_succ_self _) (by rfl) (by rfl)) (by intro u hu; simp at hu; rcases hu with rfl | rfl <;> rfl) (by unfold maxLen; omega) (by omega) (by simp; omega) ?_; intro vp w3 hop hgp hbp; have HO3 : Hid (w3.ownsRow w.heap.size 75 2 vp (j + 1) (smpCells ((xs.zip ys).take (j + 1)))) := Lib.hid (by rw [HSN.out]; exact hop); have HB3 : Hid (Below w.heap.size w w3) := Lib.hid (by first | exact ((HB.out.alloc hs0 _).drew).grown hgp (by simp; omega) (fun k hk => (HO.out.lt k hk).1) | exact (HB.out.drew.alloc (by simpa using hs0) _).grown hgp (by simp; omega) (fun k hk => (HO.out.lt k hk).1) | exact (HB.out.alloc hs0 _).grown hgp (by simp; omega) (fun k hk => (HO.out.lt k hk).1)); have q1 : w3.cell? (am.add j) = some (.int .i64 l) := (by obtain ⟨a', e, -, q⟩ := (HX.out.below HB3.out (Nat.le_refl _)).at_ (k := j) hjx; cases e; rw [HL.out] at q; exact q); have q2 : w3.cell? (ad.add j) = some (.int .i64 r) := (by obtain ⟨a', e, -, q⟩ := (HY.out.below HB3.out (Nat.le_refl _)).at_ (k := j) hjy; cases e; rw [HR.out] at q; exact q); clear hop hgp hbp))
      all_goals
        go_wp2
        go_roundw
        case rel => exact ⟨j + 1, vp, by omega, by go_num, rfl, HO3, HB3⟩
        case measure => simp [intOf]; omega
    · obtain rfl : j = n := by omega
      have ho := HO.out
      rw [List.take_of_length_le (by have := HZL.out; omega)] at ho
      have HO2 := Lib.hid ho
      clear ho HO
      have gj : ¬ (j : Int) < (j : Int) := by omega
      go_wp2
      go_ret
      exact ⟨_, rfl, HO2.out, HB.out⟩
end Go.Proofs.Ytjaomjbhkgijbaa

/-
  Contracts of between, checkEdges and CheckPoints of package groove.
-/
namespace Go.Proofs.Ytjaomjbhkgijbaa
open Go.RowKit

set_option maxHeartbeats 400000 in
theorem between_any (lo x hi : Int) (w : World) :
    Calls Try.prog 134 #[.int .i64 lo, .int .i64 x, .int .i64 hi] w fun e w' => e = .returned (.bool (win x lo hi)) ∧ w = w' := by
  by_cases h1 : lo ≤ x <;> by_cases h2 : x ≤ hi
  all_goals
    go_enter Try.func134, Try.ntmps134
    go_wp2
    go_ret
    exact ⟨by simp [win, h1, h2], rfl⟩

def vE (p : Smp) : Bool := win p.1 (-4194304) 4194304 && win p.2 (-4194304) 4194304
def ckE (p : Smp) : Int := if vE p = true then 0 else 2
def vPs (l : List Smp) : Bool := l.all vE
/-- 0: a groove · 6: too many · 2: an edge that is too far out. -/
def ckG (l : List Smp) : Int := if 4096 < l.length then 6 else if vPs l = true then 0 else 2

set_option maxHeartbeats 1000000 in
theorem checkEdges_any (p : Smp) (w : World) :
    Calls Try.prog 130 #[.agg #[.int .i64 p.1, .int .i64 p.2]] w fun e w' => e = .returned (.int .i64 (ckE p)) ∧ Below w.heap.size w w' := by
  cases h1 : win p.1 (-4194304) 4194304 <;> cases h2 : win p.2 (-4194304) 4194304
  all_goals
    have H1 := Lib.hid h1
    have H2 := Lib.hid h2
    have hr : ckE p = if vE p = true then 0 else 2 := rfl
    unfold vE at hr
    simp only [h1, h2, Bool.and_true, Bool.and_false, if_true, if_false, Bool.false_eq_true] at hr
    have HR := Lib.hid hr
    clear h1 h2 hr
    go_enter Try.func130, Try.ntmps130
    go_wp2_with ((with_reducible refine (between_any _ _ _ _).mono ?_); rintro e w' ⟨rfl, rfl⟩; (try rw [H1.out]); (try rw [H2.out]))
    go_ret
    exact ⟨ret_i HR.out.symm, (Below.refl _ _).alloc (Nat.le_refl _) _⟩

theorem vPs_take (xs : List Smp) (k : Nat) (h : k < xs.length) : vPs (xs.take (k + 1)) = (vPs (xs.take k) && vE xs[k]) := by
  unfold vPs
  rw [List.take_succ_eq_append_getElem h, List.all_append]; simp
theorem vPs_false (xs : List Smp) (k : Nat) (h : k < xs.length) (hv : vE xs[k] = false) : vPs xs = false := by
  unfold vPs
  rw [List.all_eq_false]
  exact ⟨xs[k], List.getElem_mem h, by simp [hv]⟩
theorem ckE_t {p : Smp} (h : vE p = true) : ckE p = 0 := by unfold ckE; rw [h]; rfl
theorem ckE_f {p : Smp} (h : vE p = false) : ckE p = 2 := by unfold ckE; rw [h]; rfl

set_option maxHeartbeats 1000000 in
theorem CheckPoints_any (B : Nat) (A : Option Addr) (n c : Nat) (xs : List Smp) (w : World) (h0 : RS w B A n xs) (hB : B ≤ w.heap.size) (hl : n ≤ 9223372036854775807) :
    Calls Try.prog 67 #[.slice A n c] w fun e w' => e = .returned (.int .i64 (ckG xs)) ∧ Below w.heap.size w w' := by
  have H := Lib.hid (h0.more hB)
  obtain ⟨hn, -⟩ := h0
  clear hB
  have HN := Lib.hid hn
  by_cases h4 : 4096 < n
  · have hr : ckG xs = 6 := by unfold ckG; rw [if_pos (by omega)]
    have HR := Lib.hid hr
    clear hn hr
    go_enter Try.func67, Try.ntmps67
    go_wp2
    go_ret
    exact ⟨ret_i HR.out.symm, Below.refl _ _⟩
  · have hr : ckG xs = if vPs xs then 0 else 2 := by unfold ckG; rw [if_neg (by omega)]
    have HR := Lib.hid hr
    clear hn hr
    go_enter Try.func67, Try.ntmps67
    go_wp2
    go_loopw [11] (fun i wr => ∃ k : Nat, k ≤ n ∧ i = .int .i64 k ∧ Below w.heap.size w wr ∧ Hid (vPs (xs.take k) = true)) (fun i wr => n - (intOf i).toNat)
    case atStart => exact ⟨0, Nat.zero_le _, rfl, Below.refl _ _, Lib.hid rfl⟩
    case round =>
      obtain ⟨k, hk, rfl, hb, hv⟩ := hrel
      by_cases hlt : k < n
      · obtain ⟨ad, hA, hbl, h1, h2⟩ := (H.out.below hb (Nat.le_refl _)).at_ (k := k) (by have := HN.out; omega)
        obtain rfl := hA
        cases hx : vE (xs[k]'(by have := HN.out; omega))
        · have HX := Lib.hid (ckE_f hx)
          have HXX := Lib.hid hx
          clear hx
          go_wp2_with ((with_reducible refine (checkEdges_any _ _).mono ?_); rintro e w' ⟨rfl, hb1⟩; rw [HX.out])
          go_ret
          exact ⟨ret_i (by rw [HR.out, vPs_false xs k (by have := HN.out; omega) HXX.out]; rfl), (hb.alloc hb.size _).trans (hb1.mono (by have := hb.size; simp; omega))⟩
        · have HX := Lib.hid (ckE_t hx)
          have HXX := Lib.hid hx
          clear hx
          go_wp2_with ((with_reducible refine (checkEdges_any _ _).mono ?_); rintro e w' ⟨rfl, hb1⟩; rw [HX.out])
          go_roundw
          case rel =>
            exact ⟨k + 1, by omega, by go_num, (hb.alloc hb.size _).trans (hb1.mono (by have := hb.size; simp; omega)), Lib.hid (by rw [vPs_take xs k (by have := HN.out; omega), hv.out, HXX.out]; rfl)⟩
          case measure => simp [intOf]; omega
      · go_wp2
        go_ret
        have hv' := hv.out
        rw [List.take_of_length_le (by have := HN.out; omega)] at hv'
        exact ⟨ret_i (by rw [HR.out, hv']; rfl), hb⟩

end Go.Proofs.Ytjaomjbhkgijbaa

/-
  Cutters; the contract of Check of package groove.
-/
namespace Go.Proofs.Ytjaomjbhkgijbaa
open Go.RowKit

structure Ctr where
  half : Int
  gain : Int
  thin : Int
  wide : Int
  slope : Int
  jerk : Int
  stylus : Int

def vC (c : Ctr) : Bool := win c.half 1 4096 && win c.gain 0 100000 && win c.thin 0 c.wide && win c.wide 0 1048576 && win c.slope 0 10000 && win c.jerk 0 1048576 && win c.stylus 0 1024
/-- 0: the cutter is valid · 2: it is not. -/
def ckC (c : Ctr) : Int := if vC c = true then 0 else 2

theorem bool7 : ∀ a b c d e f g : Bool, a = false ∨ (a = true ∧ b = false) ∨ (a = true ∧ b = true ∧ c = false) ∨ (a = true ∧ b = true ∧ c = true ∧ d = false) ∨ (a = true ∧ b = true ∧ c = true ∧ d = true ∧ e = false) ∨
    (a = true ∧ b = true ∧ c = true ∧ d = true ∧ e = true ∧ f = false) ∨ (a = true ∧ b = true ∧ c = true ∧ d = true ∧ e = true ∧ f = true ∧ g = false) ∨ (a = true ∧ b = true ∧ c = true ∧ d = true ∧ e = true ∧ f = true ∧ g = true) := by
  intro a b c d e f g
  cases a <;> cases b <;> cases c <;> cases d <;> cases e <;> cases f <;> cases g <;> simp

set_option maxHeartbeats 1000000 in
theorem Check_any (c : Ctr) (w : World) :
    Calls Try.prog 65 #[.agg #[.int .i64 c.half, .int .i64 c.gain, .int .i64 c.thin, .int .i64 c.wide, .int .i64 c.slope, .int .i64 c.jerk, .int .i64 c.stylus]] w fun e w' => e = .returned (.int .i64 (ckC c)) ∧ Below w.heap.size w w' := by
  rcases bool7 (win c.half 1 4096) (win c.gain 0 100000) (win c.thin 0 c.wide) (win c.wide 0 1048576) (win c.slope 0 10000) (win c.jerk 0 1048576) (win c.stylus 0 1024) with
    h1 | ⟨h1, h2⟩ | ⟨h1, h2, h3⟩ | ⟨h1, h2, h3, h4⟩ | ⟨h1, h2, h3, h4, h5⟩ | ⟨h1, h2, h3, h4, h5, h6⟩ | ⟨h1, h2, h3, h4, h5, h6, h7⟩ | ⟨h1, h2, h3, h4, h5, h6, h7⟩
  all_goals
    have hr : ckC c = if vC c = true then 0 else 2 := rfl
    unfold vC at hr
    simp only [*, Bool.and_true, Bool.and_false, Bool.false_and, if_true, if_false, Bool.false_eq_true] at hr
    have HR := Lib.hid hr
    clear hr
    have H1 := Lib.hid h1
    (try have H2 := Lib.hid h2); (try have H3 := Lib.hid h3); (try have H4 := Lib.hid h4); (try have H5 := Lib.hid h5); (try have H6 := Lib.hid h6); (try have H7 := Lib.hid h7)
    (try clear h1); (try clear h2); (try clear h3); (try clear h4); (try clear h5); (try clear h6); (try clear h7)
    go_enter Try.func65, Try.ntmps65
    go_wp2_with ((with_reducible refine (between_any _ _ _ _).mono ?_); rintro e w' ⟨rfl, rfl⟩; (try rw [H1.out]); (try rw [H2.out]); (try rw [H3.out]); (try rw [H4.out]); (try rw [H5.out]); (try rw [H6.out]); (try rw [H7.out]))
    go_ret
    exact ⟨ret_i HR.out.symm, (Below.refl _ _).alloc (Nat.le_refl _) _⟩

end Go.Proofs.Ytjaomjbhkgijbaa

