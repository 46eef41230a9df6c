/-
  Contracts of outer and inner of a line, of behind of a stylus, and of around.
-/
import Derived.Test.YtjdnpgilinfkgaaM0
import Derived.Test.YtjdnpgilinfkgaaLi
import Derived.Test.YtjdnpgilinfkgaaL1
import Derived.WalkArith
namespace Go.Proofs.Ytjdnpgilinfkgaa
open Go.RowKit

/-- A groove whose numbers are edges. -/
def Edg (l : List Smp) : Prop := Wal l.length (innW l) ∧ Wal l.length (outW l)
theorem outW_eq {l : List Smp} {t : Nat} (h : t < l.length) : outW l t = l[t].2 := by unfold outW; rw [List.getElem?_eq_getElem h]; rfl
theorem innW_eq {l : List Smp} {t : Nat} (h : t < l.length) : innW l t = -l[t].1 := by unfold innW; rw [List.getElem?_eq_getElem h]; rfl

set_option maxHeartbeats 400000 in
theorem lineOuter_any (B : Nat) (A : Option Addr) (n c : Nat) (l : List Smp) (t : Nat) (w : World) (h0 : RS w B A n l) (ht : t < l.length) :
    Calls Try.prog 106 #[.slice A n c, .int .i64 t] w fun e w' => e = .returned (.int .i64 (outW l t)) ∧ w = w' := by
  have HN := Lib.hid h0.1
  obtain ⟨ad, hA, _, h1, h2⟩ := h0.at_ ht
  obtain rfl := hA
  have hn : n = l.length := h0.1
  have HE := Lib.hid (outW_eq ht)
  obtain ⟨p, hp⟩ : ∃ p, l[t] = p := ⟨_, rfl⟩
  rw [hp] at h1 h2 HE
  clear h0 hp
  go_enter Try.func106, Try.ntmps106
  go_wp2
  go_ret
  exact ⟨ret_i HE.out.symm, rfl⟩
set_option maxHeartbeats 400000 in
theorem lineInner_any (B : Nat) (A : Option Addr) (n c : Nat) (l : List Smp) (t : Nat) (w : World) (h0 : RS w B A n l) (ht : t < l.length) (he : Edg l) :
    Calls Try.prog 107 #[.slice A n c, .int .i64 t] w fun e w' => e = .returned (.int .i64 (innW l t)) ∧ w = w' := by
  have HN := Lib.hid h0.1
  obtain ⟨ad, hA, _, h1, h2⟩ := h0.at_ ht
  obtain rfl := hA
  have hn : n = l.length := h0.1
  have HE := Lib.hid (innW_eq ht)
  have hb := he.1 t ht
  rw [HE.out] at hb
  obtain ⟨p, hp⟩ : ∃ p, l[t] = p := ⟨_, rfl⟩
  rw [hp] at h1 h2 HE hb
  have e1 : IntKind.i64.wrap (-p.1) = -p.1 := IntWalk.i64_in _ (by omega)
  clear h0 hp he
  go_enter Try.func107, Try.ntmps107
  go_wp2
  go_ret
  exact ⟨ret_i HE.out.symm, rfl⟩

set_option maxHeartbeats 1000000 in
theorem behind_any (B : Nat) (A : Option Addr) (n c : Nat) (fl : List Int) (rc : Nat) (d : Int) (k : Nat) (w : World) (h0 : LI w B A n fl) (hk : (rc : Int) + d = k) (hkl : k < fl.length) (hl : n ≤ 1099511627776) :
    Calls Try.prog 105 #[.agg #[.slice A n c, .int .i64 rc], .int .i64 d] w fun e w' => e = .returned (.int .i64 (fl[k])) ∧ Below w.heap.size w w' := by
  have hn : n = fl.length := h0.1
  obtain ⟨ad, hA, hbl, h1⟩ := h0.at_ hkl
  obtain rfl := hA
  have HV : Hid ((w.alloc (.cells #[.slice (some ad) n c, .int .i64 rc] 107)).cell? (ad.add k) = some (.int .i64 (fl[k]))) := Lib.hid (cell_al _ h1)
  have hv := HV.out
  have e1 : IntKind.i64.wrap ((rc : Int) + d) = (k : Int) := by rw [hk]; exact IntWalk.i64_in _ (by omega)
  have q1 : (k : Int) < (n : Int) := by omega
  clear h0 h1 hk hn
  go_enter Try.func105, Try.ntmps105
  go_wp2
  go_ret
  exact ⟨rfl, (Below.refl _ _).alloc (Nat.le_refl _) _⟩

set_option maxHeartbeats 400000 in
theorem around_any (t far n : Int) (w : World) :
    Calls Try.prog 65 #[.int .i64 t, .int .i64 far, .int .i64 n] w fun e w' =>
      e = .returned (.func (.func 95) #[] #[.pointer (some ⟨w.heap.size, 0, none⟩), .pointer (some ⟨w.heap.size + 1, 0, none⟩), .pointer (some ⟨w.heap.size + 1 + 1, 0, none⟩)]) ∧
      ((w.alloc (.cells #[.int .i64 t] 3)).alloc (.cells #[.int .i64 far] 3)).alloc (.cells #[.int .i64 n] 3) = w' := by
  go_enter Try.func65, Try.ntmps65
  go_wp2
  go_ret
  exact ⟨rfl, rfl⟩
end Go.Proofs.Ytjdnpgilinfkgaa
