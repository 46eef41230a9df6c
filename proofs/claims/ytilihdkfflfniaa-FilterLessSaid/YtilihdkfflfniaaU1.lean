/-
  Contracts of within, quotient, turn and ago of package filter.
-/
import Derived.Test.YtilihdkfflfniaaUN
import Derived.StillTailTactics
import Derived.Deep.QuietTactic
import Derived.BigQuiet
import Derived.Deep.DeepCutAuto
namespace Go.Proofs.Ytilihdkfflfniaa
open Go.RowKit

set_option maxHeartbeats 400000 in
theorem fwithin_any (x m : Int) (w : World) (h0 : 0 ≤ m) (h1 : m ≤ 1099511627776) :
    Calls Try.prog 72 #[.int .i64 x, .int .i64 m] w fun e w' => e = .returned (.bool (wib x m)) ∧ w = w' := by
  have e0 : IntKind.i64.wrap (-m) = -m := IntWalk.i64_in _ (by omega)
  by_cases h1 : -m ≤ x <;> by_cases h2 : x ≤ m
  all_goals
    go_enter Try.func72, Try.ntmps72
    go_wp2
    go_ret
    exact ⟨by simp [wib, h1, h2], rfl⟩

set_option maxHeartbeats 400000 in
theorem fquotient_any (a b : Int) (w : World) (hb : 0 < b) (hb2 : b ≤ 1099511627776) (h0 : -1152921504606846976 ≤ a) (h1 : a ≤ 1152921504606846976) :
    Calls Try.prog 92 #[.int .i64 a, .int .i64 b] w fun e w' => e = .returned (.int .i64 (a / b)) ∧ w = w' := by
  have hq := quo_down (a := a) hb
  have hbd : -1152921504606846976 ≤ a.tdiv b ∧ a.tdiv b ≤ 1152921504606846976 := by
    rcases Int.le_total 0 a with h | h
    · rw [Int.tdiv_eq_ediv_of_nonneg h]
      have := Int.ediv_nonneg h (show 0 ≤ b by omega)
      have := Int.ediv_le_self b h
      omega
    · have e : a.tdiv b = -((-a).tdiv b) := by rw [Int.neg_tdiv, Int.neg_neg]
      rw [e, Int.tdiv_eq_ediv_of_nonneg (show 0 ≤ -a by omega)]
      have := Int.ediv_nonneg (show 0 ≤ -a by omega) (show 0 ≤ b by omega)
      have := Int.ediv_le_self b (show 0 ≤ -a by omega)
      omega
  have hbt : -b < a.tmod b ∧ a.tmod b < b := ⟨by
      rcases Int.le_total 0 a with h | h
      · have := Int.tmod_nonneg b h; omega
      · have := Int.tmod_lt_of_pos (-a) hb
        rw [Int.neg_tmod] at this; omega, Int.tmod_lt_of_pos a hb⟩
  obtain ⟨q, hqq⟩ : ∃ q, a.tdiv b = q := ⟨_, rfl⟩
  obtain ⟨r, hr⟩ : ∃ q, a.tmod b = q := ⟨_, rfl⟩
  rw [hqq, hr] at hq
  rw [hqq] at hbd
  rw [hr] at hbt
  have e0 : IntKind.i64.wrap q = q := IntWalk.i64_in _ (by omega)
  have e1 : IntKind.i64.wrap (q - 1) = q - 1 := IntWalk.i64_in _ (by omega)
  have e2 : IntKind.i64.wrap r = r := IntWalk.i64_in _ (by omega)
  have nb : ¬ b = 0 := by omega
  have HQ := Lib.hid hq
  clear hq hbd hbt
  by_cases hr0 : r < 0
  · go_enter Try.func92, Try.ntmps92
    go_wp2
    go_ret
    have hfin : q - 1 = a / b := by have h := HQ.out; rw [if_pos (by omega)] at h; exact h
    exact ⟨ret_i hfin, rfl⟩
  · go_enter Try.func92, Try.ntmps92
    go_wp2
    go_ret
    have hfin : q = a / b := by have h := HQ.out; rw [if_neg (by omega)] at h; exact h
    exact ⟨ret_i hfin, rfl⟩

/-- A curve that runs, as it lies in memory: the ring, the next place, the lists, the share. -/
def stC (h : List (Int × Int)) (nx : Nat) (F B : Value) (sh : Int) : Array Value := (ringCells h nx ++ [.int .i64 nx, F, B, .int .i64 sh]).toArray
abbrev St (w : World) (g : Nat) (h : List (Int × Int)) (nx : Nat) (F B : Value) (sh : Int) : Prop := Blk w g 99 (stC h nx F B sh)
section
variable {w : World} {g : Nat} {h : List (Int × Int)} {nx : Nat} {F B : Value} {sh : Int}
theorem St.next (hs : St w g h nx F B sh) : w.cell? ⟨g, 16, none⟩ = some (.int .i64 nx) := (hs.cell 16).trans rfl
theorem St.feed (hs : St w g h nx F B sh) : w.cell? ⟨g, 17, none⟩ = some F := (hs.cell 17).trans rfl
theorem St.back (hs : St w g h nx F B sh) : w.cell? ⟨g, 18, none⟩ = some B := (hs.cell 18).trans rfl
theorem St.shr (hs : St w g h nx F B sh) : w.cell? ⟨g, 19, none⟩ = some (.int .i64 sh) := (hs.cell 19).trans rfl
theorem St.kept (hs : St w g h nx F B sh) {s : Nat} (h8 : s < 8) : w.cell? ⟨g, s * 2, none⟩ = some (.int .i64 (ringAt h nx s).1) ∧ w.cell? ⟨g, s * 2 + 1, none⟩ = some (.int .i64 (ringAt h nx s).2) := by
  obtain ⟨h1, h2⟩ := ring_cell h (nx := nx) h8
  have hl := ringCells_length h nx
  constructor
  · rw [hs.cell]
    unfold stC
    rw [List.getElem?_toArray, List.getElem?_append_left (by omega)]; exact h1
  · rw [hs.cell]
    unfold stC
    rw [List.getElem?_toArray, List.getElem?_append_left (by omega)]; exact h2
end

set_option maxRecDepth 100000 in
set_option maxHeartbeats 1000000 in
theorem ago_any (g nx i : Nat) (h : List (Int × Int)) (F B : Value) (sh : Int) (w : World) (hs : St w g h nx F B sh) (hn : nx < 8) (hi : i < 8) :
    Calls Try.prog 91 #[.pointer (some ⟨g, 0, none⟩), .int .i64 i] w fun e w' => e = .returned (.agg #[.int .i64 (hAt h i).1, .int .i64 (hAt h i).2]) ∧ Below w.heap.size w w' := by
  have e1 : IntKind.i64.wrap ((nx : Int) + 8) = (nx : Int) + 8 := IntWalk.i64_in _ (by omega)
  have e2 : IntKind.i64.wrap ((nx : Int) + 8 - 1) = (nx : Int) + 8 - 1 := IntWalk.i64_in _ (by omega)
  have e3 : IntKind.i64.wrap ((nx : Int) + 8 - 1 - (i : Int)) = (nx : Int) + 8 - 1 - (i : Int) := IntWalk.i64_in _ (by omega)
  obtain ⟨s, hs8⟩ : ∃ s, (nx + 7 - i) % 8 = s := ⟨_, rfl⟩
  have e4 : ((nx : Int) + 8 - 1 - (i : Int)) % 8 = (s : Int) := by omega
  have e5 : 0 ≤ (nx : Int) + 8 - 1 - (i : Int) := by omega
  have e6 : ((nx : Int) + 8 - 1 - (i : Int)).tmod 8 = (s : Int) := by rw [Int.tmod_eq_emod_of_nonneg e5]; exact e4
  have s8 : s < 8 := by omega
  have s8' : (s : Int) < 8 := by omega
  have HS8 := Lib.hid hs8
  have HS := Lib.hid hs
  have HI := Lib.hid hi
  have HN := Lib.hid hn
  obtain ⟨m, hm⟩ : ∃ m, hAt h i = m := ⟨_, rfl⟩
  rw [hm]
  have HM := Lib.hid hm
  clear hs8 hs hi hn hm
  go_enter Try.func91, Try.ntmps91
  go_wp2_with fail
  obtain ⟨W, hW⟩ : ∃ W, w.alloc (.cells #[.int .i64 0, .int .i64 0] 94) = W := ⟨_, rfl⟩
  have HSW : Hid (St W g h nx F B sh) := Lib.hid (by rw [← hW]; exact HS.out.alloc _)
  have HR : Hid (Blk W w.heap.size 94 #[.int .i64 0, .int .i64 0]) := Lib.hid (by rw [← hW]; exact Blk.new _ _ _)
  have HB : Hid (Below w.heap.size w W) := Lib.hid (by rw [← hW]; exact (Below.refl _ _).alloc (Nat.le_refl _) _)
  rw [hW]
  clear hW
  have p0 := HSW.out.next
  obtain ⟨p1, p2⟩ := HSW.out.kept (s := (nx + 7 - i) % 8) (by omega)
  rw [ring_ago h HN.out HI.out, HS8.out] at p1 p2
  rw [HM.out] at p1 p2
  obtain ⟨r0, r1, t0, t1, tl⟩ := HR.out.two
  have hg := HS.out.lt
  go_still_tail 14, (by kernel_rfl)
  change wpList _ _ _ _ _ W.drew
  go_wp2
  refine bodyPost_ret (v := .agg #[.int .i64 m.1, .int .i64 m.2]) ?_ rfl ⟨rfl, ?_⟩
  · have g1 := Blk.two (a := .int .i64 m.1) (b := .int .i64 0) (HR.out.set_ 0 (.int .i64 m.1))
    have g2 := Blk.two (a := .int .i64 m.1) (b := .int .i64 m.2) ((HR.out.set_ 0 (.int .i64 m.1)).set_ 1 (.int .i64 m.2))
    simp [results, Try.results91, go_sem, g1.1, g2.2.1]
  · exact ((HB.out.setCell (by simp <;> omega) _).setCell (by simp <;> omega) _).drew
theorem stC_store (h : List (Int × Int)) (m : Int × Int) {nx : Nat} (hn : nx < 8) (F B : Value) (sh : Int) :
    (((stC h nx F B sh).setIfInBounds (nx * 2) (.int .i64 m.1)).setIfInBounds (nx * 2 + 1) (.int .i64 m.2)).setIfInBounds 16 (.int .i64 ((nx + 1) % 8 : Nat)) = stC (m :: h) ((nx + 1) % 8) F B sh := by
  have hl := ringCells_length h nx
  have hl2 : ∀ a b, (((ringCells h nx).set a b)).length = 16 := fun a b => by rw [List.length_set, hl]
  unfold stC
  rw [List.setIfInBounds_toArray, List.setIfInBounds_toArray, List.setIfInBounds_toArray, List.set_append_left _ _ (by omega), List.set_append_left _ _ (by rw [hl2]; omega), ring_store h m hn,
    List.set_append_right _ _ (by rw [ringCells_length]; omega), ringCells_length]
  rfl
/-- What a call that remembers a moment leaves. -/
def RemPost (w : World) (g : Nat) (h : List (Int × Int)) (nx : Nat) (F B : Value) (sh : Int) (v : Value) (e : Ending) (w' : World) : Prop :=
  e = .returned v ∧ St w' g h nx F B sh ∧ w.grownBy w' (some g)
theorem grown_setS {w w0 : World} {g : Nat} (h : w0.grownBy w (some g)) (o : Nat) (u : Value) : w0.grownBy (w.setCell ⟨g, o, none⟩ u) (some g) :=
  ⟨h.os, h.tape, h.output, by simpa [World.setCell] using h.size, fun i hi hne => (Below.heap_setCell w ⟨g, o, none⟩ u i (fun e => hne (by rw [e]))).trans (h.block i hi hne)⟩
theorem grown_al {w w0 : World} {row : Option Nat} (h : w0.grownBy w row) (o : Obj) : w0.grownBy (w.alloc o) row :=
  ⟨h.os, h.tape, h.output, Nat.le_trans h.size (by simp), fun i hi hne => (Below.heap_alloc w o i (Nat.lt_of_lt_of_le hi h.size)).trans (h.block i hi hne)⟩
theorem grown_dr {w w0 : World} {row : Option Nat} (h : w0.grownBy w row) : w0.grownBy w.drew row := ⟨h.os, h.tape, h.output, h.size, h.block⟩

set_option maxRecDepth 100000 in
set_option maxHeartbeats 1000000 in
theorem remember_any (g nx : Nat) (m : Int × Int) (h : List (Int × Int)) (F B : Value) (sh : Int) (w : World) (hs : St w g h nx F B sh) (hn : nx < 8) :
    Calls Try.prog 80 #[.pointer (some ⟨g, 0, none⟩), .agg #[.int .i64 m.1, .int .i64 m.2]] w (RemPost w g (m :: h) ((nx + 1) % 8) F B sh (.tuple #[])) := by
  have e1 : IntKind.i64.wrap ((nx : Int) + 1) = (nx : Int) + 1 := IntWalk.i64_in _ (by omega)
  obtain ⟨s, hs8⟩ : ∃ s, (nx + 1) % 8 = s := ⟨_, rfl⟩
  have e3 : ((nx : Int) + 1) % 8 = (s : Int) := by omega
  have e2 : ((nx : Int) + 1).tmod 8 = (s : Int) := by rw [Int.tmod_eq_emod_of_nonneg (by omega)]; exact e3
  have n8 : (nx : Int) < 8 := by omega
  have s8 : (s : Int) < 8 := by omega
  rw [hs8]
  have HS8 := Lib.hid hs8
  clear hs8
  have HS := Lib.hid hs
  have HN := Lib.hid hn
  have hg := hs.lt
  clear hs
  go_enter Try.func80, Try.ntmps80
  go_wp2_with fail
  obtain ⟨W, hW⟩ : ∃ W, w.alloc (.cells #[.int .i64 m.1, .int .i64 m.2] 94) = W := ⟨_, rfl⟩
  have HSW : Hid (St W g h nx F B sh) := Lib.hid (by rw [← hW]; exact HS.out.alloc _)
  have HM : Hid (Blk W w.heap.size 94 #[.int .i64 m.1, .int .i64 m.2]) := Lib.hid (by rw [← hW]; exact Blk.new _ _ _)
  have HG : Hid (w.grownBy W (some g)) := Lib.hid (by rw [← hW]; exact grown_al (World.grownBy.refl w _) _)
  rw [hW]
  clear hW
  have p0 := HSW.out.next
  have q0 : W.cell? ⟨w.heap.size, 0, none⟩ = some (.int .i64 m.1) := (HM.out.cell 0).trans rfl
  have q1 : W.cell? ⟨w.heap.size, 1, none⟩ = some (.int .i64 m.2) := (HM.out.cell 1).trans rfl
  obtain ⟨k1, k2⟩ := HSW.out.kept (s := nx) HN.out
  have f1 := HSW.out.frozen (nx * 2)
  have f2 := HSW.out.frozen (nx * 2 + 1)
  go_still_tail 9, (by kernel_rfl)
  change wpList _ _ _ _ _ W.drew
  go_upto_region 2 with fail
  obtain ⟨V, hV⟩ : ∃ V, ((W.setCell ⟨g, nx * 2, none⟩ (.int .i64 m.1)).setCell ⟨g, nx * 2 + 1, none⟩ (.int .i64 m.2)).drew = V := ⟨_, rfl⟩
  have HV : Hid (Blk V g 99 (((stC h nx F B sh).setIfInBounds (nx * 2) (.int .i64 m.1)).setIfInBounds (nx * 2 + 1) (.int .i64 m.2))) := Lib.hid (by rw [← hV]; exact ((HSW.out.set_ _ _).set_ _ _).drew)
  replace HG : Hid (w.grownBy V (some g)) := Lib.hid (by rw [← hV]; exact grown_dr (grown_setS (grown_setS HG.out _ _) _ _))
  rw [hV]
  clear hV p0 q0 q1 k1 k2 f1 f2 HM HSW
  have p0 : V.cell? ⟨g, 16, none⟩ = some (.int .i64 nx) := by
    rw [HV.out.cell 16, Array.getElem?_setIfInBounds_ne (by have := HN.out; omega), Array.getElem?_setIfInBounds_ne (by have := HN.out; omega)]; rfl
  have f0 := HV.out.frozen 16
  refine wp_region_list ?_
  go_wp2
  refine bodyPost_ret (results_none rfl _ _ _) rfl ?_
  refine ⟨rfl, ?_, grown_setS HG.out _ _⟩
  exact (HV.out.set_ 16 _).cast (by rw [← HS8.out]; exact stC_store h m HN.out F B sh)
end Go.Proofs.Ytilihdkfflfniaa
