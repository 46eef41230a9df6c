/-
  The iterator of around: the samples near a sample, in order.
-/
import Derived.Test.YtjdnpgilinfkgaaM1
import Derived.RangeFuncNested
import Derived.RangeFuncLeaves
import Derived.RangeFuncBound
import Derived.RangeFuncCalls
import Derived.RangeFuncKeeps
import Derived.Shelf.Abstract
import Derived.Shelf.RegionOpen
import Derived.OwnWalkIn
import Derived.TacticsInMore
import Derived.LoopNIn
import Derived.LoopIn
namespace Go.Proofs.Ytjdnpgilinfkgaa
open Go.RowKit Go.Shelf
attribute [local go_sem] Oper.semAt_some

abbrev encN (x : Nat) : Array Value := #[.int .i64 x]
theorem nbr_len (t far n : Nat) : (nbr t far n).length = min n (t + far + 1) - (t - far) := by unfold nbr; rw [List.length_range']
theorem nbr_snoc {t far n j : Nat} (h : j < (nbr t far n).length) : (nbr t far n).take j ++ [t - far + j] = (nbr t far n).take (j + 1) := by
  rw [List.take_succ_eq_append_getElem h]
  simp [nbr]

set_option maxRecDepth 100000 in
set_option maxHeartbeats 2000000 in
theorem around1_all (m bt bf bn t far n : Nat) (gg : Nat → Prop) (W0 : World) (hm : 1 ≤ m) (k1 : Blk W0 bt 3 #[.int .i64 t]) (k2 : Blk W0 bf 3 #[.int .i64 far]) (k3 : Blk W0 bn 3 #[.int .i64 n])
    (g1 : ¬ gg bt) (g2 : ¬ gg bf) (g3 : ¬ gg bn) (ht : t ≤ 1099511627776) (hf : far ≤ 1099511627776) (hn : n ≤ 1099511627776) :
    SeqAll Fence.wide m Try.prog 95 #[.pointer (some ⟨bt, 0, none⟩), .pointer (some ⟨bf, 0, none⟩), .pointer (some ⟨bn, 0, none⟩)] encN gg (nbr t far n) W0 := fun l J W hW hJ hY h0 => by
  have c1 : W.cell? ⟨bt, 0, none⟩ = some (.int .i64 t) := (hW.cell (p := ⟨bt, 0, none⟩) k1.lt).trans k1.one.1
  have c2 : W.cell? ⟨bf, 0, none⟩ = some (.int .i64 far) := (hW.cell (p := ⟨bf, 0, none⟩) k2.lt).trans k2.one.1
  have c3 : W.cell? ⟨bn, 0, none⟩ = some (.int .i64 n) := (hW.cell (p := ⟨bn, 0, none⟩) k3.lt).trans k3.one.1
  have e1 : IntKind.i64.wrap ((t : Int) - far) = (t : Int) - far := IntWalk.i64_in _ (by omega)
  have e2 : IntKind.i64.wrap ((t : Int) + far) = (t : Int) + far := IntWalk.i64_in _ (by omega)
  have e3 : IntKind.i64.wrap ((t : Int) + far + 1) = (t : Int) + far + 1 := IntWalk.i64_in _ (by omega)
  obtain ⟨lo, hlo⟩ : ∃ lo, t - far = lo := ⟨_, rfl⟩
  obtain ⟨hi, hhi⟩ : ∃ hi, min n (t + far + 1) = hi := ⟨_, rfl⟩
  have e4 : (if far < t then (t : Int) - far else 0) = (lo : Int) := by split <;> omega
  have e5 : (if (t : Int) + far + 1 < (n : Int) then (t : Int) + far + 1 else (n : Int)) = (hi : Int) := by split <;> omega
  have hlen := nbr_len t far n
  rw [hlo, hhi] at hlen
  have hb : hi ≤ 1099511627776 := by omega
  have hlb : lo ≤ 1099511627776 := by omega
  have HS : Hid (∀ j, j < (nbr t far n).length → (nbr t far n).take j ++ [lo + j] = (nbr t far n).take (j + 1)) := Lib.hid (fun j h => by rw [← hlo]; exact nbr_snoc h)
  obtain ⟨us, hus⟩ : ∃ us, nbr t far n = us := ⟨_, rfl⟩
  rw [hus] at hlen HS hY
  rw [hus]
  have HC := Lib.hid (And.intro c1 (And.intro c2 c3))
  have HG := Lib.hid (And.intro g1 (And.intro g2 g3))
  have HL := Lib.hid hlen
  clear hus hlo hhi k1 k2 k3 ht hf hn hlen hW
  refine callsIn_of_wp Try.func95 rfl trivial ?_ rfl
  simp only [Try.ntmps95, List.size_toArray, List.length_cons, List.length_nil, Nat.reduceAdd, Nat.reduceSub, Array.replicate_succ, Array.replicate_zero, List.push_toArray, List.append_toArray, List.nil_append, List.cons_append]
  gi_wp2
  gi_loopw [5] (fun z wr => ∃ j : Nat, j ≤ us.length ∧ z = .int .i64 ((lo + j : Nat) : Int) ∧ Hid (J (us.take j) wr) ∧ Hid (Bel gg W wr)) (fun z _ => (hi - intOf z).toNat)
  case atStart => exact ⟨0, Nat.zero_le _, by simp, Lib.hid h0, Lib.hid (Bel.refl _ _)⟩
  case round =>
    clear c1 c2 c3 h0 e1 e4
    obtain ⟨j, hj, rfl, HJ, HX⟩ := hrel
    have c1 := HX.out.cell HC.out.1 HG.out.1
    have c2 := HX.out.cell HC.out.2.1 HG.out.2.1
    have c3 := HX.out.cell HC.out.2.2 HG.out.2.2
    by_cases hlt : j < us.length
    · have hl1 : lo + j < hi := by have := HL.out; omega
      have hpre := HS.out j hlt
      obtain ⟨fn, tmps, assign, body, hy, hR⟩ := hY _ (lo + j) wr HJ.out (by rw [hpre]; exact List.take_prefix _ _)
      rw [hpre] at hR
      dsimp only [encN] at hy
      obtain ⟨u, hu⟩ : ∃ u, lo + j = u := ⟨_, rfl⟩
      rw [hu] at hy hl1
      have HU := Lib.hid hu
      rw [hu]
      clear hpre hu
      have hl2 : (u : Int) < (hi : Int) := by omega
      have e6 : IntKind.i64.wrap ((u : Int) + 1) = (u : Int) + 1 := IntWalk.i64_in _ (by omega)
      gi_wp2
      refine hR.mono ?_
      rintro e W3 ⟨rfl, hJ3, hk3, hk4⟩
      gi_wp2
      go_roundw
      case rel => exact ⟨j + 1, by omega, by have := HU.out; congr 1; omega, Lib.hid hJ3, Lib.hid (HX.out.trans hk3)⟩
      case measure => simp [intOf]; omega
    · have hje : j = us.length := by omega
      have hl1 : ¬ (((lo + j : Nat) : Int) < (hi : Int)) := by have := HL.out; omega
      have HJF : Hid (J us wr) := Lib.hid (by have h := HJ.out; rw [hje, List.take_length] at h; exact h)
      obtain ⟨u, hu⟩ : ∃ u, lo + j = u := ⟨_, rfl⟩
      rw [hu] at hl1 ⊢
      clear hu hje
      gi_wp2
      go_end0
      exact ⟨⟨_, rfl⟩, HJF.out⟩
end Go.Proofs.Ytjdnpgilinfkgaa
