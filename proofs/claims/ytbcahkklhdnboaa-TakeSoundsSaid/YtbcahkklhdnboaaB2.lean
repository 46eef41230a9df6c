/-
  Contracts of IndexFunc, ContainsFunc, named, CheckTakes.
-/
import Derived.Test.YtbcahkklhdnboaaB1
namespace Go.Proofs.Ytbcahkklhdnboaa
open Go.RowKit

/-- The index of the first take with p, from i on; -1 if there is none. -/
def fi (p : TV → Bool) : List TV → Nat → Int
  | [], _ => -1
  | t :: ts, i => if p t = true then (i : Int) else fi p ts (i + 1)
theorem drop_get (l : List TV) (k : Nat) (h : k < l.length) : l.drop k = l[k] :: l.drop (k + 1) := List.drop_eq_getElem_cons h
def pLong (t : TV) : Bool := decide (4096 < t.n)
def pNm (s : ByteArray) (t : TV) : Bool := t.nm.toList == s.toList

set_option maxHeartbeats 400000 in
theorem named1_any (t : TV) (s : ByteArray) (bx : Nat) (w : World) (hx : Blk w bx 9 #[.string s]) :
    Calls Try.prog 69 #[.agg #[.string t.nm, .slice t.A t.n t.c], .pointer (some ⟨bx, 0, none⟩)] w fun e w' => e = .returned (.bool (pNm s t)) ∧ Below w.heap.size w w' := by
  obtain ⟨c0, f0, cl⟩ := hx.one
  go_enter Try.func69, Try.ntmps69
  go_wp2
  go_ret
  exact ⟨ret_b rfl, (Below.refl _ _).alloc (Nat.le_refl _) _⟩

set_option maxRecDepth 100000 in
set_option maxHeartbeats 1000000 in
theorem IndexFunc_long (B : Nat) (A : Option Addr) (n c : Nat) (l : List TV) (w : World) (h0 : RT w B A n l) (hB : B ≤ w.heap.size) (hl : n ≤ 9223372036854775807) :
    Calls Try.prog 67 #[.slice A n c, .func (.func 39) #[] #[]] w fun e w' => e = .returned (.int .i64 (fi pLong l 0)) ∧ Below w.heap.size w w' := by
  have H := Lib.hid (h0.more hB)
  obtain ⟨hn, -⟩ := h0
  have HN := Lib.hid hn
  clear hn hB
  obtain ⟨R, hR⟩ : ∃ R, fi pLong l 0 = R := ⟨_, rfl⟩
  rw [hR]
  have HR := Lib.hid hR
  clear hR
  go_enter Try.func67, Try.ntmps67
  go_wp2
  go_loopw [8] (fun i wr => ∃ k : Nat, k ≤ n ∧ i = .int .i64 k ∧ Below w.heap.size w wr ∧ Hid (fi pLong (l.drop k) k = R)) (fun i wr => n - (intOf i).toNat)
  case atStart => exact ⟨0, Nat.zero_le _, rfl, Below.refl _ _, HR⟩
  case round =>
    clear HR
    obtain ⟨k, hk, rfl, hb, hv⟩ := hrel
    by_cases hlt : k < n
    · obtain ⟨ad, hA, hbl, h1, h2, h3⟩ := (H.out.below hb (Nat.le_refl _)).at_ (k := k) (by have := HN.out; omega)
      obtain rfl := hA
      have hd := drop_get l k (by have := HN.out; omega)
      have HD := Lib.hid hd
      clear hd h3
      cases hx : pLong (l[k]'(by have := HN.out; omega))
      all_goals
        have HX := Lib.hid hx
        clear hx
        go_wp2_with fail
        refine (tooLong_any _ _).mono ?_
        rintro e w1 ⟨rfl, hb1⟩
        rw [show decide (4096 < (l[k]'(by have := HN.out; omega)).n) = _ from HX.out]
        go_wp2
      · go_roundw
        case rel => exact ⟨k + 1, by omega, by go_num, hb.trans (hb1.mono hb.size), Lib.hid (by rw [← hv.out, HD.out, fi, HX.out]; simp)⟩
        case measure => simp [intOf]; omega
      · go_ret
        exact ⟨ret_i (by rw [← hv.out, HD.out, fi, HX.out]; simp), hb.trans (hb1.mono hb.size)⟩
    · go_wp2
      go_ret
      exact ⟨ret_i (by rw [← hv.out, List.drop_eq_nil_of_le (by have := HN.out; omega)]; rfl), hb⟩

set_option maxRecDepth 100000 in
set_option maxHeartbeats 1000000 in
theorem IndexFunc_named (B : Nat) (A : Option Addr) (n c : Nat) (l : List TV) (s : ByteArray) (bx : Nat) (w : World) (h0 : RT w B A n l) (hB : B ≤ w.heap.size) (hl : n ≤ 9223372036854775807) (hx : Blk w bx 9 #[.string s]) :
    Calls Try.prog 67 #[.slice A n c, .func (.func 69) #[] #[.pointer (some ⟨bx, 0, none⟩)]] w fun e w' => e = .returned (.int .i64 (fi (pNm s) l 0)) ∧ Below w.heap.size w w' := by
  have H := Lib.hid (h0.more hB)
  obtain ⟨hn, -⟩ := h0
  have HN := Lib.hid hn
  clear hn hB
  have HBX := Lib.hid hx
  have hbl0 := hx.lt
  clear hx
  obtain ⟨R, hR⟩ : ∃ R, fi (pNm s) l 0 = R := ⟨_, rfl⟩
  rw [hR]
  have HR := Lib.hid hR
  clear hR
  go_enter Try.func67, Try.ntmps67
  go_wp2
  go_loopw [8] (fun i wr => ∃ k : Nat, k ≤ n ∧ i = .int .i64 k ∧ Below w.heap.size w wr ∧ Hid (fi (pNm s) (l.drop k) k = R)) (fun i wr => n - (intOf i).toNat)
  case atStart => exact ⟨0, Nat.zero_le _, rfl, Below.refl _ _, HR⟩
  case round =>
    clear HR
    obtain ⟨k, hk, rfl, hb, hv⟩ := hrel
    by_cases hlt : k < n
    · obtain ⟨ad, hA, hbl, h1, h2, h3⟩ := (H.out.below hb (Nat.le_refl _)).at_ (k := k) (by have := HN.out; omega)
      obtain rfl := hA
      have hd := drop_get l k (by have := HN.out; omega)
      have HD := Lib.hid hd
      clear hd h3
      cases hx : (pNm s) (l[k]'(by have := HN.out; omega))
      all_goals
        have HX := Lib.hid hx
        clear hx
        go_wp2_with fail
        refine (named1_any _ s bx _ (HBX.out.below hb hbl0)).mono ?_
        rintro e w1 ⟨rfl, hb1⟩
        rw [HX.out]
        go_wp2
      · go_roundw
        case rel => exact ⟨k + 1, by omega, by go_num, hb.trans (hb1.mono hb.size), Lib.hid (by rw [← hv.out, HD.out, fi, HX.out]; simp)⟩
        case measure => simp [intOf]; omega
      · go_ret
        exact ⟨ret_i (by rw [← hv.out, HD.out, fi, HX.out]; simp), hb.trans (hb1.mono hb.size)⟩
    · go_wp2
      go_ret
      exact ⟨ret_i (by rw [← hv.out, List.drop_eq_nil_of_le (by have := HN.out; omega)]; rfl), hb⟩

set_option maxHeartbeats 1000000 in
theorem ContainsLong_any (B : Nat) (A : Option Addr) (n c : Nat) (l : List TV) (w : World) (h0 : RT w B A n l) (hB : B ≤ w.heap.size) (hl : n ≤ 9223372036854775807) :
    Calls Try.prog 38 #[.slice A n c, .func (.func 39) #[] #[]] w fun e w' => e = .returned (.bool (l.any pLong)) ∧ Below w.heap.size w w' := by
  have hfi : ∀ (l : List TV) (i : Nat), (0 ≤ fi pLong l i) = (l.any pLong = true) := by
    intro l
    induction l with
    | nil => intro i; simp [fi]
    | cons t ts ih =>
      intro i
      simp only [fi, List.any_cons]
      cases pLong t
      · simp [ih]
      · simp
  have hf := hfi l 0
  clear hfi
  cases ha : l.any pLong
  · have hf' : ¬ 0 ≤ fi pLong l 0 := by rw [hf, ha]; simp
    clear hf ha
    obtain ⟨q, hq⟩ : ∃ q, fi pLong l 0 = q := ⟨_, rfl⟩
    rw [hq] at hf'
    have HQ := Lib.hid hq
    clear hq
    go_enter Try.func38, Try.ntmps38
    go_wp2_with fail
    refine (IndexFunc_long _ _ _ _ l _ h0 hB hl).mono ?_
    rintro e w1 ⟨rfl, hb1⟩
    rw [HQ.out]
    go_wp2
    go_ret
    exact ⟨ret_b (by first | (simp; done) | (simp; omega)), hb1⟩
  · have hf' : 0 ≤ fi pLong l 0 := by rw [hf, ha]
    clear hf ha
    obtain ⟨q, hq⟩ : ∃ q, fi pLong l 0 = q := ⟨_, rfl⟩
    rw [hq] at hf'
    have HQ := Lib.hid hq
    clear hq
    go_enter Try.func38, Try.ntmps38
    go_wp2_with fail
    refine (IndexFunc_long _ _ _ _ l _ h0 hB hl).mono ?_
    rintro e w1 ⟨rfl, hb1⟩
    rw [HQ.out]
    go_wp2
    go_ret
    exact ⟨ret_b (by first | (simp; done) | (simp; omega)), hb1⟩

set_option maxHeartbeats 1000000 in
theorem named_any (B : Nat) (A : Option Addr) (n c : Nat) (l : List TV) (s : ByteArray) (w : World) (h0 : RT w B A n l) (hB : B ≤ w.heap.size) (hl : n ≤ 9223372036854775807) :
    Calls Try.prog 41 #[.slice A n c, .string s] w fun e w' => e = .returned (.int .i64 (fi (pNm s) l 0)) ∧ Below w.heap.size w w' := by
  have H := Lib.hid (h0.more hB)
  clear h0 hB
  go_enter Try.func41, Try.ntmps41
  go_wp2_with fail
  refine (IndexFunc_named _ _ _ _ l s w.heap.size _ (H.out.below ((Below.refl _ _).alloc (Nat.le_refl _) _) (Nat.le_refl _)) (by simp) hl (Blk.new _ _ _)).mono ?_
  rintro e w1 ⟨rfl, hb1⟩
  go_wp2
  go_ret
  exact ⟨ret_i rfl, ((Below.refl _ _).alloc (Nat.le_refl _) _).trans (hb1.mono (by simp))⟩

def dupF (l : List TV) : List TV → Nat → Bool
  | [], _ => false
  | t :: ts, i => decide (fi (pNm t.nm) l 0 < (i : Int)) || dupF l ts (i + 1)
/-- 0: fine · 6: too many · 2: not valid · 12: two with the same name. -/
def ckT (l : List TV) : Int :=
  if l.length = 0 ∨ 16 < l.length ∨ l.any pLong = true then 6 else if l.all vTake = false then 2 else if dupF l l 0 = true then 12 else 0

set_option maxRecDepth 100000 in
set_option maxHeartbeats 2000000 in
theorem CheckTakes_any (B : Nat) (A : Option Addr) (n c : Nat) (l : List TV) (w : World) (h0 : RT w B A n l) (hB : B ≤ w.heap.size) (hl : n ≤ 9223372036854775807) (hs : TSm l) :
    Calls Try.prog 16 #[.slice A n c] w fun e w' => e = .returned (.int .i64 (ckT l)) ∧ Below w.heap.size w w' := by
  have H := Lib.hid (h0.more hB)
  have HS := Lib.hid hs
  obtain ⟨hn, -⟩ := h0
  by_cases k1 : n = 0
  · have hr : ckT l = 6 := by unfold ckT; rw [if_pos (.inl (by omega))]
    have HR := Lib.hid hr
    have k1' : ((n : Int) == 0) = true := beq_iff_eq.2 (by omega)
    clear hn hr k1 hs
    go_enter Try.func16, Try.ntmps16
    go_wp2
    go_ret
    exact ⟨ret_i HR.out.symm, Below.refl _ _⟩
  have k1' : ((n : Int) == 0) = false := beq_eq_false_iff_ne.2 (by omega)
  by_cases k2 : 16 < n
  · have hr : ckT l = 6 := by unfold ckT; rw [if_pos (.inr (.inl (by omega)))]
    have HR := Lib.hid hr
    clear hn hr k1 hs
    go_enter Try.func16, Try.ntmps16
    go_wp2
    go_ret
    exact ⟨ret_i HR.out.symm, Below.refl _ _⟩
  cases k3 : l.any pLong
  · have hr : ckT l = if l.all vTake = false then 2 else if dupF l l 0 = true then 12 else 0 := by
      unfold ckT; rw [if_neg (by rw [k3]; rintro (h | h | h) <;> first | omega | cases h)]
    have HR := Lib.hid hr
    have HN := Lib.hid hn
    have K3 := Lib.hid k3
    clear hn hr k1 k3 hs
    go_enter Try.func16, Try.ntmps16
    go_wp2_with fail
    refine (ContainsLong_any _ _ _ _ l _ H.out (Nat.le_refl _) hl).mono ?_
    rintro e w1 ⟨rfl, hb1⟩
    rw [K3.out]
    go_wp2_with fail
    go_loopw [21] (fun i wr => ∃ k : Nat, k ≤ n ∧ i = .int .i64 k ∧ Below w.heap.size w wr ∧ Hid (l.all vTake = (l.drop k).all vTake)) (fun i wr => n - (intOf i).toNat)
    case atStart => exact ⟨0, Nat.zero_le _, rfl, hb1, Lib.hid rfl⟩
    case round =>
      clear hb1
      obtain ⟨k, hk, rfl, hb, hv⟩ := hrel
      by_cases hlt : k < n
      · obtain ⟨ad, hA, hbl, h1, h2, h3⟩ := (H.out.below hb (Nat.le_refl _)).at_ (k := k) (by have := HN.out; omega)
        obtain rfl := hA
        have hss := HS.out _ (List.getElem_mem (show k < l.length by have := HN.out; omega))
        have hd := drop_get l k (by have := HN.out; omega)
        have HD := Lib.hid hd
        have H3 := Lib.hid h3
        clear hd h3
        obtain ⟨s1, s2⟩ := hss
        cases hx : vTake (l[k]'(by have := HN.out; omega))
        all_goals
          have HX := Lib.hid hx
          clear hx
          go_wp2_with fail
          refine (validTake_any _ _ _ (H3.out.below ((Below.refl _ _).alloc (Nat.le_refl _) _) hb.size) (by simp; have := hb.size; omega) s1 s2).mono ?_
          rintro e w2 ⟨rfl, hb2⟩
          rw [HX.out]
          have hbw : Below w.heap.size w w2 := (hb.alloc hb.size _).trans (hb2.mono (by simp; have := hb.size; omega))
          clear hb2
          go_wp2
        · go_ret
          exact ⟨ret_i (by rw [HR.out, hv.out, HD.out, List.all_cons, HX.out]; rfl), hbw⟩
        · go_roundw
          case rel => exact ⟨k + 1, by omega, by go_num, hbw, Lib.hid (by rw [hv.out, HD.out, List.all_cons, HX.out]; rfl)⟩
          case measure => simp [intOf]; omega
      · have hall : l.all vTake = true := by rw [hv.out, List.drop_eq_nil_of_le (by have := HN.out; omega)]; rfl
        have HALL := Lib.hid hall
        clear hall hv
        obtain ⟨wo, hwo⟩ : ∃ wo : World, wo = wr := ⟨_, rfl⟩
        subst hwo
        go_wp2_with fail
        go_loopw [31] (fun i wr => ∃ k : Nat, k ≤ n ∧ i = .int .i64 k ∧ Below w.heap.size w wr ∧ Hid (dupF l l 0 = dupF l (l.drop k) k)) (fun i wr => n - (intOf i).toNat)
        case atStart => exact ⟨0, Nat.zero_le _, rfl, hb, Lib.hid rfl⟩
        case round =>
          clear hb
          obtain ⟨k', hk', rfl, hb, hv⟩ := hrel
          by_cases hlt' : k' < n
          · obtain ⟨ad, hA, hbl, h1, h2, h3⟩ := (H.out.below hb (Nat.le_refl _)).at_ (k := k') (by have := HN.out; omega)
            obtain rfl := hA
            have hd := drop_get l k' (by have := HN.out; omega)
            have HD := Lib.hid hd
            clear hd h3
            by_cases hx : fi (pNm (l[k']'(by have := HN.out; omega)).nm) l 0 < (k' : Int)
            all_goals
              obtain ⟨q, hq⟩ : ∃ q, fi (pNm (l[k']'(by have := HN.out; omega)).nm) l 0 = q := ⟨_, rfl⟩
              rw [hq] at hx
              have HQ := Lib.hid hq
              clear hq
              go_wp2_with fail
              refine (named_any _ _ _ _ l _ _ (H.out.below (hb.alloc hb.size _) (Nat.le_refl _)) (by simp; have := hb.size; omega) hl).mono ?_
              rintro e w2 ⟨rfl, hb2⟩
              rw [HQ.out]
              have hbw : Below w.heap.size w w2 := (hb.alloc hb.size _).trans (hb2.mono (by simp; have := hb.size; omega))
              clear hb2
              go_wp2
            · go_ret
              exact ⟨ret_i (by rw [HR.out, HALL.out, hv.out, HD.out, dupF, HQ.out]; simp; omega), hbw⟩
            · go_roundw
              case rel => exact ⟨k' + 1, by omega, by go_num, hbw, Lib.hid (by rw [hv.out, HD.out, dupF, HQ.out]; simp; omega)⟩
              case measure => simp [intOf]; omega
          · go_wp2
            go_ret
            exact ⟨ret_i (by rw [HR.out, HALL.out, hv.out, List.drop_eq_nil_of_le (by have := HN.out; omega)]; rfl), hb⟩
  · have hr : ckT l = 6 := by unfold ckT; rw [if_pos (.inr (.inr k3))]
    have HR := Lib.hid hr
    have K3 := Lib.hid k3
    clear hn hr k1 k3 hs
    go_enter Try.func16, Try.ntmps16
    go_wp2_with fail
    refine (ContainsLong_any _ _ _ _ l _ H.out (Nat.le_refl _) hl).mono ?_
    rintro e w1 ⟨rfl, hb1⟩
    rw [K3.out]
    go_wp2
    go_ret
    exact ⟨ret_i HR.out.symm, hb1⟩
end Go.Proofs.Ytbcahkklhdnboaa
