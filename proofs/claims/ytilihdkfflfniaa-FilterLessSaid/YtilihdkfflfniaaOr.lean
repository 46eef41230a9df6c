/-
  cmp.Or over errors; words for blocks.
-/
import Derived.Test.YtilihdkfflfniaaWords
namespace Go.Proofs.Ytilihdkfflfniaa
open Go.RowKit

theorem cell_al {W : World} {p : Addr} {v : Value} (o : Obj) (h : W.cell? p = some v) : (W.alloc o).cell? p = some v := (((Below.refl _ W).alloc (Nat.le_refl _) o).cell (World.block_lt_of_cell? W p h)).trans h
theorem cell_dr {W : World} {p : Addr} {v : Value} (h : W.cell? p = some v) : W.drew.cell? p = some v := h
theorem reads_cells {w : World} {g size n : Nat} {t : TypeId} {cs : Array Value} {B : Nat} {xs : List Value} (h : Blk w g t cs) (hB : g < B) (hc : cs.toList = xs) (hl : xs.length = n * size) : Reads w B size (some ⟨g, 0, none⟩) n xs := by
  refine ⟨hl, fun _ => ⟨_, rfl, hB, fun j u hu => ?_⟩⟩
  rw [show (⟨g, 0, none⟩ : Addr).add j = ⟨g, j, none⟩ from by unfold Addr.add; split <;> simp_all]
  rw [h.cell, ← hu, ← hc, Array.getElem?_toList]
theorem blk_dr {w : World} {t : TypeId} {cs : Array Value} {b : Nat} (h : w.heap.size = b) : Blk (w.alloc (.cells cs t)).drew b t cs := h ▸ Blk.new _ _ _
theorem blk_al {w : World} {t : TypeId} {cs : Array Value} {b : Nat} (h : w.heap.size = b) : Blk (w.alloc (.cells cs t)) b t cs := h ▸ Blk.new _ _ _
theorem info_i64 : (Try.prog.info? 2).map (fun i => (i.zero, i.size, i.bytes)) = some (some (.int .i64 0), 1, 8) := by kernel_rfl

/-- The first of some errors that is not 0. -/
def orL : List Int → Int
  | [] => 0
  | x :: xs => if x = 0 then orL xs else x

set_option maxHeartbeats 1000000 in
theorem cmpOr_any (B : Nat) (A : Option Addr) (n c : Nat) (xs : List Int) (w : World) (h0 : n = xs.length) (h1 : Reads w B 1 A n (xs.map (Value.int .i64))) (_hB : B ≤ w.heap.size) (hl : n ≤ 9223372036854775807) :
    Calls Try.prog 46 #[.slice A n c] w fun e w' => e = .returned (.int .i64 (orL xs)) ∧ w = w' := by
  have HN := Lib.hid h0
  have H := Lib.hid h1
  obtain ⟨R, hR⟩ : ∃ R, orL xs = R := ⟨_, rfl⟩
  rw [hR]
  have HR := Lib.hid hR
  clear h0 h1 hR
  go_enter Try.func46, Try.ntmps46
  go_wp2
  go_loop [8] (fun i => ∃ k : Nat, k ≤ n ∧ i = .int .i64 k ∧ Hid (orL (xs.drop k) = R)) (fun i => n - (intOf i).toNat)
  case atStart => exact ⟨0, Nat.zero_le _, rfl, HR⟩
  case round =>
    clear HR
    obtain ⟨k, hk, rfl, hv⟩ := hrel
    by_cases hlt : k < n
    · have hd : xs.drop k = xs[k]'(by have := HN.out; omega) :: xs.drop (k + 1) := List.drop_eq_getElem_cons (by have := HN.out; omega)
      have HD := Lib.hid hd
      clear hd
      obtain ⟨ad, hA, hbl, hc⟩ := H.out.2 (by omega)
      have hc1 := hc k (.int .i64 (xs[k]'(by have := HN.out; omega))) (by simp)
      clear hc
      obtain rfl := hA
      by_cases hx : (xs[k]'(by have := HN.out; omega)) = 0
      · have HX := Lib.hid hx
        rw [hx] at hc1
        clear hx
        go_wp2
        go_round
        case rel => exact ⟨k + 1, by omega, by go_num, Lib.hid (by rw [← hv.out, HD.out, orL, if_pos HX.out])⟩
        case measure => simp [intOf]; omega
      · have hx2 : ((xs[k]'(by have := HN.out; omega)) == 0) = false := beq_eq_false_iff_ne.2 hx
        have hx3 : ((xs[k]'(by have := HN.out; omega)) != 0) = true := by rw [bne_iff_ne]; exact hx
        have HX := Lib.hid hx
        clear hx
        go_wp2
        go_ret
        exact ⟨ret_i (by rw [← hv.out, HD.out, orL, if_neg HX.out]), rfl⟩
    · go_wp2
      go_ret
      exact ⟨ret_i (by rw [← hv.out, List.drop_eq_nil_of_le (by have := HN.out; omega)]; rfl), rfl⟩
end Go.Proofs.Ytilihdkfflfniaa
