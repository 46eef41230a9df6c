/-
  Takes in memory; contracts of tooLong, validName, validTake.
-/
import Derived.Test.YtjaomjbhkgijbaaMg1

namespace Go.Proofs.Ytjaomjbhkgijbaa
open Go.RowKit

/-- A take as it lies in memory: its name, its slice, what the slice holds. -/
structure TV where
  nm : ByteArray
  A : Option Addr
  n : Nat
  c : Nat
  xs : List Smp

def tvCells (l : List TV) : List Value := l.flatMap fun t => [.string t.nm, .slice t.A t.n t.c]
theorem tvCells_length (l : List TV) : (tvCells l).length = l.length * 2 := by
  induction l with
  | nil => rfl
  | cons x xs ih => simp [tvCells] at ih ⊢; omega
theorem tvCells_at (l : List TV) : ∀ (k : Nat) (h : k < l.length), (tvCells l)[k * 2]? = some (.string l[k].nm) ∧ (tvCells l)[k * 2 + 1]? = some (.slice l[k].A l[k].n l[k].c) := by
  induction l with
  | nil => intro k h; simp at h
  | cons x xs ih =>
    intro k h
    cases k with
    | zero => exact ⟨rfl, rfl⟩
    | succ k =>
      have := ih k (by simpa using h)
      rw [show (k + 1) * 2 = k * 2 + 2 from by omega]
      simpa [tvCells, List.getElem?_cons] using this

/-- '.slice A n c' reads as the takes l; each take's own slice reads, and lies below B. -/
def RT (w : World) (B : Nat) (A : Option Addr) (n : Nat) (l : List TV) : Prop :=
  n = l.length ∧ Reads w B 2 A n (tvCells l) ∧ ∀ t ∈ l, RS w B t.A t.n t.xs
theorem RT.below {w w' : World} {B B' : Nat} {A : Option Addr} {n : Nat} {l : List TV} (h : RT w B A n l) (hb : Below B' w w') (hB : B ≤ B') : RT w' B A n l :=
  ⟨h.1, h.2.1.below hb hB, fun t ht => (h.2.2 t ht).below hb hB⟩
theorem RT.more {w : World} {B B' : Nat} {A : Option Addr} {n : Nat} {l : List TV} (h : RT w B A n l) (hB : B ≤ B') : RT w B' A n l :=
  ⟨h.1, h.2.1.more hB, fun t ht => (h.2.2 t ht).more hB⟩
theorem RT.at_ {w : World} {B : Nat} {A : Option Addr} {n : Nat} {l : List TV} (h : RT w B A n l) {k : Nat} (hk : k < l.length) :
    ∃ ad, A = some ad ∧ ad.block < B ∧ w.cell? (ad.add (k * 2)) = some (.string l[k].nm) ∧ w.cell? ⟨(ad.add (k * 2)).block, (ad.add (k * 2)).off + 1, none⟩ = some (.slice l[k].A l[k].n l[k].c) ∧ RS w B l[k].A l[k].n l[k].xs := by
  obtain ⟨rfl, hr, hs⟩ := h
  obtain ⟨ad, e, hb, hc⟩ := hr.2 (by omega)
  obtain ⟨h1, h2⟩ := tvCells_at l k hk
  exact ⟨ad, e, hb, hc _ _ h1, by have := hc _ _ h2; rw [← add_of_add] at this; exact this, hs _ (List.getElem_mem hk)⟩

/-- Each slice is no longer than an int counts, each name too. -/
def TSm (l : List TV) : Prop := ∀ t ∈ l, t.n ≤ 9223372036854775807 ∧ t.nm.size ≤ 9223372036854775807

set_option maxHeartbeats 400000 in
theorem tooLong_any (t : TV) (w : World) :
    Calls Try.prog 87 #[.agg #[.string t.nm, .slice t.A t.n t.c]] w fun e w' => e = .returned (.bool (decide (4096 < t.n))) ∧ Below w.heap.size w w' := by
  by_cases h : 4096 < t.n
  all_goals
    go_enter Try.func87, Try.ntmps87
    go_wp2
    go_ret
    exact ⟨ret_b (by simp; omega), (Below.refl _ _).alloc (Nat.le_refl _) _⟩

def okc (c : UInt8) : Bool := (decide (97 ≤ (c.toNat : Int)) && decide ((c.toNat : Int) ≤ 122)) || (decide (48 ≤ (c.toNat : Int)) && decide ((c.toNat : Int) ≤ 57))
def vName (s : ByteArray) : Bool := decide (0 < s.size) && decide (s.size ≤ 20) && s.data.toList.all okc
theorem all_take (s : ByteArray) (k : Nat) (h : k < s.size) : (s.data.toList.take (k + 1)).all okc = ((s.data.toList.take k).all okc && okc s[k]) := by
  rw [List.take_succ_eq_append_getElem (by simpa using h), List.all_append]
  simp; rfl
theorem all_false (s : ByteArray) (k : Nat) (h : k < s.size) (hc : okc s[k] = false) : s.data.toList.all okc = false := by
  rw [List.all_eq_false]
  exact ⟨s[k], List.getElem_mem (by simpa using h), by simp [hc]⟩

set_option maxRecDepth 100000 in
set_option maxHeartbeats 1000000 in
theorem validName_any (s : ByteArray) (w : World) (hs : s.size ≤ 9223372036854775807) :
    Calls Try.prog 153 #[.string s] w fun e w' => e = .returned (.bool (vName s)) ∧ w = w' := by
  by_cases h1 : 0 < s.size
  · by_cases h2 : s.size ≤ 20
    · have h0 : ((s.size : Int) == 0) = false := beq_eq_false_iff_ne.2 (by omega)
      have h3 : ¬ (20 : Int) < (s.size : Int) := by omega
      go_enter Try.func153, Try.ntmps153
      go_wp2
      go_loop [16] (fun i => ∃ k : Nat, k ≤ s.size ∧ i = .int .i64 k ∧ Hid ((s.data.toList.take k).all okc = true)) (fun i => s.size - (intOf i).toNat)
      case atStart => exact ⟨0, Nat.zero_le _, rfl, Lib.hid rfl⟩
      case round =>
        obtain ⟨k, hk, rfl, hv⟩ := hrel
        by_cases hlt : k < s.size
        · by_cases c1 : 97 ≤ (s[k].toNat : Int) <;> by_cases c2 : (s[k].toNat : Int) ≤ 122 <;> by_cases c3 : 48 ≤ (s[k].toNat : Int) <;> by_cases c4 : (s[k].toNat : Int) ≤ 57 <;> first | omega | skip
          all_goals
            go_wp2
            first
            | (go_round
               case rel => exact ⟨k + 1, by omega, by go_num, Lib.hid (by rw [all_take s k hlt, hv.out]; simp [okc]; omega)⟩
               case measure => simp [intOf]; omega)
            | (go_ret
               exact ⟨ret_b (by simp only [vName]; rw [all_false s k hlt (by simp [okc]; omega)]; simp), rfl⟩)
        · go_wp2
          go_ret
          have hv' := hv.out
          rw [List.take_of_length_le (by simp; omega)] at hv'
          exact ⟨ret_b (by simp only [vName]; rw [hv']; simp; omega), rfl⟩
    · have h0 : ((s.size : Int) == 0) = false := beq_eq_false_iff_ne.2 (by omega)
      have h3 : (20 : Int) < (s.size : Int) := by omega
      go_enter Try.func153, Try.ntmps153
      go_wp2
      go_ret
      exact ⟨ret_b (by simp [vName, h2]), rfl⟩
  · have h0 : ((s.size : Int) == 0) = true := beq_iff_eq.2 (by omega)
    go_enter Try.func153, Try.ntmps153
    go_wp2
    go_ret
    exact ⟨ret_b (by simp [vName, h1]), rfl⟩

def vTake (t : TV) : Bool := vName t.nm && decide (0 < t.n) && decide (t.n ≤ 4096) && vss t.xs

set_option maxRecDepth 100000 in
set_option maxHeartbeats 1000000 in
theorem validTake_any (t : TV) (B : Nat) (w : World) (h0 : RS w B t.A t.n t.xs) (hB : B ≤ w.heap.size) (hn : t.n ≤ 9223372036854775807) (hs : t.nm.size ≤ 9223372036854775807) :
    Calls Try.prog 88 #[.agg #[.string t.nm, .slice t.A t.n t.c]] w fun e w' => e = .returned (.bool (vTake t)) ∧ Below w.heap.size w w' := by
  have H := Lib.hid (h0.more hB)
  clear h0 hB
  cases v1 : vName t.nm
  · have V1 := Lib.hid v1
    clear v1
    go_enter Try.func88, Try.ntmps88
    go_wp2_with ((with_reducible refine (validName_any _ _ hs).mono ?_); rintro e w1 ⟨rfl, rfl⟩; rw [V1.out])
    go_ret
    exact ⟨ret_b (by simp [vTake, V1.out]), (Below.refl _ _).alloc (Nat.le_refl _) _⟩
  · have V1 := Lib.hid v1
    clear v1
    by_cases v2 : 0 < t.n
    · by_cases v3 : t.n ≤ 4096
      · have v3' : decide (4096 < t.n) = false := by simp; omega
        have V3 := Lib.hid v3'
        clear v3'
        cases v4 : vss t.xs
        all_goals
          have V4 := Lib.hid v4
          clear v4
          go_enter Try.func88, Try.ntmps88
          go_wp2_with fail
          refine (validName_any _ _ hs).mono ?_
          rintro e w1 ⟨rfl, rfl⟩
          rw [V1.out]
          go_wp2_with fail
          refine (tooLong_any t _).mono ?_
          rintro e w1 ⟨rfl, hb1⟩
          rw [V3.out]
          obtain ⟨c0, c1, f0, f1, cl⟩ := ((Blk.new w 111 #[.string t.nm, .slice t.A t.n t.c]).below hb1 (by simp)).two
          have hbw : Below w.heap.size w w1 := ((Below.refl _ _).alloc (Nat.le_refl _) _).trans (hb1.mono (by simp))
          go_wp2_with fail
          refine (validSamples_any _ _ _ _ t.xs _ (H.out.below hbw (Nat.le_refl _)) hbw.size hn).mono ?_
          rintro e w2 ⟨rfl, hb2⟩
          rw [V4.out]
          go_wp2
          go_ret
          exact ⟨ret_b (by simp [vTake, V1.out, V4.out, v2, v3]), hbw.trans (hb2.mono hbw.size)⟩
      · have v3' : decide (4096 < t.n) = true := by simp; omega
        have V3 := Lib.hid v3'
        clear v3'
        go_enter Try.func88, Try.ntmps88
        go_wp2_with fail
        refine (validName_any _ _ hs).mono ?_
        rintro e w1 ⟨rfl, rfl⟩
        rw [V1.out]
        go_wp2_with fail
        refine (tooLong_any t _).mono ?_
        rintro e w1 ⟨rfl, hb1⟩
        rw [V3.out]
        go_wp2
        go_ret
        exact ⟨ret_b (by simp [vTake, v3]), ((Below.refl _ _).alloc (Nat.le_refl _) _).trans (hb1.mono (by simp))⟩
    · go_enter Try.func88, Try.ntmps88
      go_wp2_with ((with_reducible refine (validName_any _ _ hs).mono ?_); rintro e w1 ⟨rfl, rfl⟩; rw [V1.out])
      go_ret
      exact ⟨ret_b (by simp [vTake, v2]), (Below.refl _ _).alloc (Nat.le_refl _) _⟩
end Go.Proofs.Ytjaomjbhkgijbaa

/-
  Contracts of IndexFunc, ContainsFunc, named, CheckTakes.
-/
namespace Go.Proofs.Ytjaomjbhkgijbaa
open Go.RowKit

/-- The index of the first take with p, from i on; -1 if there is none. -/
def fi (p : TV → Bool) : List TV → Nat → Int
  | [], _ => -1
  | t :: ts, i => if p t = true then (i : Int) else fi p ts (i + 1)
theorem drop_get (l : List TV) (k : Nat) (h : k < l.length) : l.drop k = l[k] :: l.drop (k + 1) := List.drop_eq_getElem_cons h
def pLong (t : TV) : Bool := decide (4096 < t.n)
def pNm (s : ByteArray) (t : TV) : Bool := t.nm.toList == s.toList

set_option maxHeartbeats 400000 in
theorem named1_any (t : TV) (s : ByteArray) (bx : Nat) (w : World) (hx : Blk w bx 9 #[.string s]) :
    Calls Try.prog 154 #[.agg #[.string t.nm, .slice t.A t.n t.c], .pointer (some ⟨bx, 0, none⟩)] w fun e w' => e = .returned (.bool (pNm s t)) ∧ Below w.heap.size w w' := by
  obtain ⟨c0, f0, cl⟩ := hx.one
  go_enter Try.func154, Try.ntmps154
  go_wp2
  go_ret
  exact ⟨ret_b rfl, (Below.refl _ _).alloc (Nat.le_refl _) _⟩

set_option maxRecDepth 100000 in
set_option maxHeartbeats 1000000 in
theorem IndexFunc_long (B : Nat) (A : Option Addr) (n c : Nat) (l : List TV) (w : World) (h0 : RT w B A n l) (hB : B ≤ w.heap.size) (hl : n ≤ 9223372036854775807) :
    Calls Try.prog 152 #[.slice A n c, .func (.func 87) #[] #[]] w fun e w' => e = .returned (.int .i64 (fi pLong l 0)) ∧ Below w.heap.size w w' := by
  have H := Lib.hid (h0.more hB)
  obtain ⟨hn, -⟩ := h0
  have HN := Lib.hid hn
  clear hn hB
  obtain ⟨R, hR⟩ : ∃ R, fi pLong l 0 = R := ⟨_, rfl⟩
  rw [hR]
  have HR := Lib.hid hR
  clear hR
  go_enter Try.func152, Try.ntmps152
  go_wp2
  go_loopw [8] (fun i wr => ∃ k : Nat, k ≤ n ∧ i = .int .i64 k ∧ Below w.heap.size w wr ∧ Hid (fi pLong (l.drop k) k = R)) (fun i wr => n - (intOf i).toNat)
  case atStart => exact ⟨0, Nat.zero_le _, rfl, Below.refl _ _, HR⟩
  case round =>
    clear HR
    obtain ⟨k, hk, rfl, hb, hv⟩ := hrel
    by_cases hlt : k < n
    · obtain ⟨ad, hA, hbl, h1, h2, h3⟩ := (H.out.below hb (Nat.le_refl _)).at_ (k := k) (by have := HN.out; omega)
      obtain rfl := hA
      have hd := drop_get l k (by have := HN.out; omega)
      have HD := Lib.hid hd
      clear hd h3
      cases hx : pLong (l[k]'(by have := HN.out; omega))
      all_goals
        have HX := Lib.hid hx
        clear hx
        go_wp2_with fail
        refine (tooLong_any _ _).mono ?_
        rintro e w1 ⟨rfl, hb1⟩
        rw [show decide (4096 < (l[k]'(by have := HN.out; omega)).n) = _ from HX.out]
        go_wp2
      · go_roundw
        case rel => exact ⟨k + 1, by omega, by go_num, hb.trans (hb1.mono hb.size), Lib.hid (by rw [← hv.out, HD.out, fi, HX.out]; simp)⟩
        case measure => simp [intOf]; omega
      · go_ret
        exact ⟨ret_i (by rw [← hv.out, HD.out, fi, HX.out]; simp), hb.trans (hb1.mono hb.size)⟩
    · go_wp2
      go_ret
      exact ⟨ret_i (by rw [← hv.out, List.drop_eq_nil_of_le (by have := HN.out; omega)]; rfl), hb⟩

set_option maxRecDepth 100000 in
set_option maxHeartbeats 1000000 in
theorem IndexFunc_named (B : Nat) (A : Option Addr) (n c : Nat) (l : List TV) (s : ByteArray) (bx : Nat) (w : World) (h0 : RT w B A n l) (hB : B ≤ w.heap.size) (hl : n ≤ 9223372036854775807) (hx : Blk w bx 9 #[.string s]) :
    Calls Try.prog 152 #[.slice A n c, .func (.func 154) #[] #[.pointer (some ⟨bx, 0, none⟩)]] w fun e w' => e = .returned (.int .i64 (fi (pNm s) l 0)) ∧ Below w.heap.size w w' := by
  have H := Lib.hid (h0.more hB)
  obtain ⟨hn, -⟩ := h0
  have HN := Lib.hid hn
  clear hn hB
  have HBX := Lib.hid hx
  have hbl0 := hx.lt
  clear hx
  obtain ⟨R, hR⟩ : ∃ R, fi (pNm s) l 0 = R := ⟨_, rfl⟩
  rw [hR]
  have HR := Lib.hid hR
  clear hR
  go_enter Try.func152, Try.ntmps152
  go_wp2
  go_loopw [8] (fun i wr => ∃ k : Nat, k ≤ n ∧ i = .int .i64 k ∧ Below w.heap.size w wr ∧ Hid (fi (pNm s) (l.drop k) k = R)) (fun i wr => n - (intOf i).toNat)
  case atStart => exact ⟨0, Nat.zero_le _, rfl, Below.refl _ _, HR⟩
  case round =>
    clear HR
    obtain ⟨k, hk, rfl, hb, hv⟩ := hrel
    by_cases hlt : k < n
    · obtain ⟨ad, hA, hbl, h1, h2, h3⟩ := (H.out.below hb (Nat.le_refl _)).at_ (k := k) (by have := HN.out; omega)
      obtain rfl := hA
      have hd := drop_get l k (by have := HN.out; omega)
      have HD := Lib.hid hd
      clear hd h3
      cases hx : (pNm s) (l[k]'(by have := HN.out; omega))
      all_goals
        have HX := Lib.hid hx
        clear hx
        go_wp2_with fail
        refine (named1_any _ s bx _ (HBX.out.below hb hbl0)).mono ?_
        rintro e w1 ⟨rfl, hb1⟩
        rw [HX.out]
        go_wp2
      · go_roundw
        case rel => exact ⟨k + 1, by omega, by go_num, hb.trans (hb1.mono hb.size), Lib.hid (by rw [← hv.out, HD.out, fi, HX.out]; simp)⟩
        case measure => simp [intOf]; omega
      · go_ret
        exact ⟨ret_i (by rw [← hv.out, HD.out, fi, HX.out]; simp), hb.trans (hb1.mono hb.size)⟩
    · go_wp2
      go_ret
      exact ⟨ret_i (by rw [← hv.out, List.drop_eq_nil_of_le (by have := HN.out; omega)]; rfl), hb⟩

set_option maxHeartbeats 1000000 in
theorem ContainsLong_any (B : Nat) (A : Option Addr) (n c : Nat) (l : List TV) (w : World) (h0 : RT w B A n l) (hB : B ≤ w.heap.size) (hl : n ≤ 9223372036854775807) :
    Calls Try.prog 86 #[.slice A n c, .func (.func 87) #[] #[]] w fun e w' => e = .returned (.bool (l.any pLong)) ∧ Below w.heap.size w w' := by
  have hfi : ∀ (l : List TV) (i : Nat), (0 ≤ fi pLong l i) = (l.any pLong = true) := by
    intro l
    induction l with
    | nil => intro i; simp [fi]
    | cons t ts ih =>
      intro i
      simp only [fi, List.any_cons]
      cases pLong t
      · simp [ih]
      · simp
  have hf := hfi l 0
  clear hfi
  cases ha : l.any pLong
  · have hf' : ¬ 0 ≤ fi pLong l 0 := by rw [hf, ha]; simp
    clear hf ha
    obtain ⟨q, hq⟩ : ∃ q, fi pLong l 0 = q := ⟨_, rfl⟩
    rw [hq] at hf'
    have HQ := Lib.hid hq
    clear hq
    go_enter Try.func86, Try.ntmps86
    go_wp2_with fail
    refine (IndexFunc_long _ _ _ _ l _ h0 hB hl).mono ?_
    rintro e w1 ⟨rfl, hb1⟩
    rw [HQ.out]
    go_wp2
    go_ret
    exact ⟨ret_b (by first | (simp; done) | (simp; omega)), hb1⟩
  · have hf' : 0 ≤ fi pLong l 0 := by rw [hf, ha]
    clear hf ha
    obtain ⟨q, hq⟩ : ∃ q, fi pLong l 0 = q := ⟨_, rfl⟩
    rw [hq] at hf'
    have HQ := Lib.hid hq
    clear hq
    go_enter Try.func86, Try.ntmps86
    go_wp2_with fail
    refine (IndexFunc_long _ _ _ _ l _ h0 hB hl).mono ?_
    rintro e w1 ⟨rfl, hb1⟩
    rw [HQ.out]
    go_wp2
    go_ret
    exact ⟨ret_b (by first | (simp; done) | (simp; omega)), hb1⟩

set_option maxHeartbeats 1000000 in
theorem named_any (B : Nat) (A : Option Addr) (n c : Nat) (l : List TV) (s : ByteArray) (w : World) (h0 : RT w B A n l) (hB : B ≤ w.heap.size) (hl : n ≤ 9223372036854775807) :
    Calls Try.prog 89 #[.slice A n c, .string s] w fun e w' => e = .returned (.int .i64 (fi (pNm s) l 0)) ∧ Below w.heap.size w w' := by
  have H := Lib.hid (h0.more hB)
  clear h0 hB
  go_enter Try.func89, Try.ntmps89
  go_wp2_with fail
  refine (IndexFunc_named _ _ _ _ l s w.heap.size _ (H.out.below ((Below.refl _ _).alloc (Nat.le_refl _) _) (Nat.le_refl _)) (by simp) hl (Blk.new _ _ _)).mono ?_
  rintro e w1 ⟨rfl, hb1⟩
  go_wp2
  go_ret
  exact ⟨ret_i rfl, ((Below.refl _ _).alloc (Nat.le_refl _) _).trans (hb1.mono (by simp))⟩

def dupF (l : List TV) : List TV → Nat → Bool
  | [], _ => false
  | t :: ts, i => decide (fi (pNm t.nm) l 0 < (i : Int)) || dupF l ts (i + 1)
/-- 0: fine · 6: too many · 2: not valid · 12: two with the same name. -/
def ckT (l : List TV) : Int :=
  if l.length = 0 ∨ 16 < l.length ∨ l.any pLong = true then 6 else if l.all vTake = false then 2 else if dupF l l 0 = true then 12 else 0

set_option maxRecDepth 100000 in
set_option maxHeartbeats 2000000 in
theorem CheckTakes_any (B : Nat) (A : Option Addr) (n c : Nat) (l : List TV) (w : World) (h0 : RT w B A n l) (hB : B ≤ w.heap.size) (hl : n ≤ 9223372036854775807) (hs : TSm l) :
    Calls Try.prog 21 #[.slice A n c] w fun e w' => e = .returned (.int .i64 (ckT l)) ∧ Below w.heap.size w w' := by
  have H := Lib.hid (h0.more hB)
  have HS := Lib.hid hs
  obtain ⟨hn, -⟩ := h0
  by_cases k1 : n = 0
  · have hr : ckT l = 6 := by unfold ckT; rw [if_pos (.inl (by omega))]
    have HR := Lib.hid hr
    have k1' : ((n : Int) == 0) = true := beq_iff_eq.2 (by omega)
    clear hn hr k1 hs
    go_enter Try.func21, Try.ntmps21
    go_wp2
    go_ret
    exact ⟨ret_i HR.out.symm, Below.refl _ _⟩
  have k1' : ((n : Int) == 0) = false := beq_eq_false_iff_ne.2 (by omega)
  by_cases k2 : 16 < n
  · have hr : ckT l = 6 := by unfold ckT; rw [if_pos (.inr (.inl (by omega)))]
    have HR := Lib.hid hr
    clear hn hr k1 hs
    go_enter Try.func21, Try.ntmps21
    go_wp2
    go_ret
    exact ⟨ret_i HR.out.symm, Below.refl _ _⟩
  cases k3 : l.any pLong
  · have hr : ckT l = if l.all vTake = false then 2 else if dupF l l 0 = true then 12 else 0 := by
      unfold ckT; rw [if_neg (by rw [k3]; rintro (h | h | h) <;> first | omega | cases h)]
    have HR := Lib.hid hr
    have HN := Lib.hid hn
    have K3 := Lib.hid k3
    clear hn hr k1 k3 hs
    go_enter Try.func21, Try.ntmps21
    go_wp2_with fail
    refine (ContainsLong_any _ _ _ _ l _ H.out (Nat.le_refl _) hl).mono ?_
    rintro e w1 ⟨rfl, hb1⟩
    rw [K3.out]
    go_wp2_with fail
    go_loopw [21] (fun i wr => ∃ k : Nat, k ≤ n ∧ i = .int .i64 k ∧ Below w.heap.size w wr ∧ Hid (l.all vTake = (l.drop k).all vTake)) (fun i wr => n - (intOf i).toNat)
    case atStart => exact ⟨0, Nat.zero_le _, rfl, hb1, Lib.hid rfl⟩
    case round =>
      clear hb1
      obtain ⟨k, hk, rfl, hb, hv⟩ := hrel
      by_cases hlt : k < n
      · obtain ⟨ad, hA, hbl, h1, h2, h3⟩ := (H.out.below hb (Nat.le_refl _)).at_ (k := k) (by have := HN.out; omega)
        obtain rfl := hA
        have hss := HS.out _ (List.getElem_mem (show k < l.length by have := HN.out; omega))
        have hd := drop_get l k (by have := HN.out; omega)
        have HD := Lib.hid hd
        have H3 := Lib.hid h3
        clear hd h3
        obtain ⟨s1, s2⟩ := hss
        cases hx : vTake (l[k]'(by have := HN.out; omega))
        all_goals
          have HX := Lib.hid hx
          clear hx
          go_wp2_with fail
          refine (validTake_any _ _ _ (H3.out.below ((Below.refl _ _).alloc (Nat.le_refl _) _) hb.size) (by simp; have := hb.size; omega) s1 s2).mono ?_
          rintro e w2 ⟨rfl, hb2⟩
          rw [HX.out]
          have hbw : Below w.heap.size w w2 := (hb.alloc hb.size _).trans (hb2.mono (by simp; have := hb.size; omega))
          clear hb2
          go_wp2
        · go_ret
          exact ⟨ret_i (by rw [HR.out, hv.out, HD.out, List.all_cons, HX.out]; rfl), hbw⟩
        · go_roundw
          case rel => exact ⟨k + 1, by omega, by go_num, hbw, Lib.hid (by rw [hv.out, HD.out, List.all_cons, HX.out]; rfl)⟩
          case measure => simp [intOf]; omega
      · have hall : l.all vTake = true := by rw [hv.out, List.drop_eq_nil_of_le (by have := HN.out; omega)]; rfl
        have HALL := Lib.hid hall
        clear hall hv
        obtain ⟨wo, hwo⟩ : ∃ wo : World, wo = wr := ⟨_, rfl⟩
        subst hwo
        go_wp2_with fail
        go_loopw [31] (fun i wr => ∃ k : Nat, k ≤ n ∧ i = .int .i64 k ∧ Below w.heap.size w wr ∧ Hid (dupF l l 0 = dupF l (l.drop k) k)) (fun i wr => n - (intOf i).toNat)
        case atStart => exact ⟨0, Nat.zero_le _, rfl, hb, Lib.hid rfl⟩
        case round =>
          clear hb
          obtain ⟨k', hk', rfl, hb, hv⟩ := hrel
          by_cases hlt' : k' < n
          · obtain ⟨ad, hA, hbl, h1, h2, h3⟩ := (H.out.below hb (Nat.le_refl _)).at_ (k := k') (by have := HN.out; omega)
            obtain rfl := hA
            have hd := drop_get l k' (by have := HN.out; omega)
            have HD := Lib.hid hd
            clear hd h3
            by_cases hx : fi (pNm (l[k']'(by have := HN.out; omega)).nm) l 0 < (k' : Int)
            all_goals
              obtain ⟨q, hq⟩ : ∃ q, fi (pNm (l[k']'(by have := HN.out; omega)).nm) l 0 = q := ⟨_, rfl⟩
              rw [hq] at hx
              have HQ := Lib.hid hq
              clear hq
              go_wp2_with fail
              refine (named_any _ _ _ _ l _ _ (H.out.below (hb.alloc hb.size _) (Nat.le_refl _)) (by simp; have := hb.size; omega) hl).mono ?_
              rintro e w2 ⟨rfl, hb2⟩
              rw [HQ.out]
              have hbw : Below w.heap.size w w2 := (hb.alloc hb.size _).trans (hb2.mono (by simp; have := hb.size; omega))
              clear hb2
              go_wp2
            · go_ret
              exact ⟨ret_i (by rw [HR.out, HALL.out, hv.out, HD.out, dupF, HQ.out]; simp; omega), hbw⟩
            · go_roundw
              case rel => exact ⟨k' + 1, by omega, by go_num, hbw, Lib.hid (by rw [hv.out, HD.out, dupF, HQ.out]; simp; omega)⟩
              case measure => simp [intOf]; omega
          · go_wp2
            go_ret
            exact ⟨ret_i (by rw [HR.out, HALL.out, hv.out, List.drop_eq_nil_of_le (by have := HN.out; omega)]; rfl), hb⟩
  · have hr : ckT l = 6 := by unfold ckT; rw [if_pos (.inr (.inr k3))]
    have HR := Lib.hid hr
    have K3 := Lib.hid k3
    clear hn hr k1 k3 hs
    go_enter Try.func21, Try.ntmps21
    go_wp2_with fail
    refine (ContainsLong_any _ _ _ _ l _ H.out (Nat.le_refl _) hl).mono ?_
    rintro e w1 ⟨rfl, hb1⟩
    rw [K3.out]
    go_wp2
    go_ret
    exact ⟨ret_i HR.out.symm, hb1⟩
end Go.Proofs.Ytjaomjbhkgijbaa

