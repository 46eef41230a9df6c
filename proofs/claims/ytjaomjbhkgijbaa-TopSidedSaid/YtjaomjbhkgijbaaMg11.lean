/-
  Contracts of the verifier's example and of its word 'Works'.
-/
import Derived.Test.YtjaomjbhkgijbaaMg10
import Derived.Test.YtjaomjbhkgijbaaMg4
import Derived.Test.YtjaomjbhkgijbaaMg1
import Derived.Test.YtjaomjbhkgijbaaMg3
import Derived.RangeFuncOwn
import Derived.RangeFuncCalls

namespace Go.Proofs.Ytjaomjbhkgijbaa
open Go.RowKit

def exL (A1 A2 : Option Addr) : List TV := [⟨⟨#[97]⟩, A1, 4, 4, [(100, -100), (200, -200), (300, -300), (400, -400)]⟩, ⟨⟨#[98]⟩, A2, 2, 2, [(1000, 0), (1000, 0)]⟩]
def exP : List Prt := [⟨0, 0, 4, 2, 0, 0, 1000⟩, ⟨1, 0, 2, -1, 0, 0, 1000⟩]
theorem ex_er (A1 A2 : Option Addr) : rnEr (exL A1 A2) exP = 0 := by kernel_rfl
theorem ex_res (A1 A2 : Option Addr) : rnRes (exL A1 A2) exP = [(0, 0), (0, 0), (100, -100), (200, -200), (300, -300), (1400, -400), (1000, 0)] := by kernel_rfl
theorem ex_tsm (A1 A2 : Option Addr) : TSm (exL A1 A2) := by
  intro t ht
  simp only [exL, List.mem_cons, List.not_mem_nil, or_false] at ht
  rcases ht with rfl | rfl <;> exact ⟨by simp, by simp [ByteArray.size]⟩

def ExPost (w : World) (e : Ending) (w' : World) : Prop :=
  ∃ A c A' c' A1 A2, e = .returned (.tuple #[.slice A 2 c, .slice A' 2 c']) ∧ RT w' w'.heap.size A 2 (exL A1 A2) ∧ RP w' w'.heap.size A' 2 exP ∧ Below w.heap.size w w'

theorem reads_blk {w : World} {g size n : Nat} {t : TypeId} {cs : Array Value} {B : Nat} {xs : List Value} (h : Blk w g t cs) (hB : g < B) (hc : cs.toList = xs) (hl : xs.length = n * size) : Reads w B size (some ⟨g, 0, none⟩) n xs := by
  refine ⟨hl, fun _ => ⟨_, rfl, hB, fun j u hu => ?_⟩⟩
  rw [show (⟨g, 0, none⟩ : Addr).add j = ⟨g, j, none⟩ from by unfold Addr.add; split <;> simp_all]
  rw [h.cell, ← hu, ← hc, Array.getElem?_toList]

set_option maxRecDepth 100000 in
set_option maxHeartbeats 4000000 in
theorem Example_any (w : World) : Calls Try.prog 82 #[] w (ExPost w) := by
  go_enter Try.func82, Try.ntmps82
  go_wp2
  obtain ⟨W1, hW1⟩ : ∃ W1, w.alloc (.cells #[.int .i64 100, .int .i64 (-100), .int .i64 200, .int .i64 (-200), .int .i64 300, .int .i64 (-300), .int .i64 400, .int .i64 (-400)] 75) = W1 := ⟨_, rfl⟩
  have n1 : W1.heap.size = w.heap.size + 1 := by rw [← hW1]; simp
  have b1 : Blk W1 w.heap.size 75 #[.int .i64 100, .int .i64 (-100), .int .i64 200, .int .i64 (-200), .int .i64 300, .int .i64 (-300), .int .i64 400, .int .i64 (-400)] := by rw [← hW1]; exact Blk.new _ _ _
  have l1 : Below w.heap.size w W1 := by rw [← hW1]; exact (Below.refl _ _).alloc (Nat.le_refl _) _
  rw [hW1]
  clear hW1
  obtain ⟨W2, hW2⟩ : ∃ W2, W1.alloc (.cells #[.string ⟨#[97]⟩, .slice (some ⟨w.heap.size, 0, none⟩) 4 4] 111) = W2 := ⟨_, rfl⟩
  have n2 : W2.heap.size = w.heap.size + 1 + 1 := by rw [← hW2, World.size_alloc, n1]
  have b2 := b1.alloc (.cells #[.string ⟨#[97]⟩, .slice (some ⟨w.heap.size, 0, none⟩) 4 4] 111)
  have l2 := l1.alloc (by omega) (.cells #[.string ⟨#[97]⟩, .slice (some ⟨w.heap.size, 0, none⟩) 4 4] 111)
  rw [hW2] at b2 l2 ⊢
  clear hW2
  obtain ⟨W3, hW3⟩ : ∃ W3, W2.alloc (.cells #[.int .i64 1000, .int .i64 0, .int .i64 1000, .int .i64 0] 75) = W3 := ⟨_, rfl⟩
  have n3 : W3.heap.size = w.heap.size + 1 + 1 + 1 := by rw [← hW3, World.size_alloc, n2]
  have b3 := b2.alloc (.cells #[.int .i64 1000, .int .i64 0, .int .i64 1000, .int .i64 0] 75)
  have c3 := Blk.new W2 75 #[.int .i64 1000, .int .i64 0, .int .i64 1000, .int .i64 0]
  have l3 := l2.alloc (by omega) (.cells #[.int .i64 1000, .int .i64 0, .int .i64 1000, .int .i64 0] 75)
  rw [hW3] at b3 l3 c3 ⊢
  clear hW3
  rw [n2] at c3
  obtain ⟨o4, ho4⟩ : ∃ o4, Obj.cells #[.string ⟨#[98]⟩, .slice (some ⟨w.heap.size + 1 + 1, 0, none⟩) 2 2] 111 = o4 := ⟨_, rfl⟩
  rw [ho4]
  have b4 := b3.alloc o4
  have c4 := c3.alloc o4
  have l4 := l3.alloc (by omega) o4
  have n4 : (W3.alloc o4).heap.size = w.heap.size + 1 + 1 + 1 + 1 := by rw [World.size_alloc, n3]
  obtain ⟨W4, hW4⟩ : ∃ W4, W3.alloc o4 = W4 := ⟨_, rfl⟩
  rw [hW4] at b4 c4 l4 n4 ⊢
  clear hW4 ho4
  have d5 := Blk.new W4 111 #[.string ⟨#[97]⟩, .slice (some ⟨w.heap.size, 0, none⟩) 4 4, .string ⟨#[98]⟩, .slice (some ⟨w.heap.size + 1 + 1, 0, none⟩) 2 2]
  rw [n4] at d5
  have b5 := b4.alloc (.cells #[.string ⟨#[97]⟩, .slice (some ⟨w.heap.size, 0, none⟩) 4 4, .string ⟨#[98]⟩, .slice (some ⟨w.heap.size + 1 + 1, 0, none⟩) 2 2] 111)
  have c5 := c4.alloc (.cells #[.string ⟨#[97]⟩, .slice (some ⟨w.heap.size, 0, none⟩) 4 4, .string ⟨#[98]⟩, .slice (some ⟨w.heap.size + 1 + 1, 0, none⟩) 2 2] 111)
  have l5 := l4.alloc (by omega) (.cells #[.string ⟨#[97]⟩, .slice (some ⟨w.heap.size, 0, none⟩) 4 4, .string ⟨#[98]⟩, .slice (some ⟨w.heap.size + 1 + 1, 0, none⟩) 2 2] 111)
  have n5 : (W4.alloc (.cells #[.string ⟨#[97]⟩, .slice (some ⟨w.heap.size, 0, none⟩) 4 4, .string ⟨#[98]⟩, .slice (some ⟨w.heap.size + 1 + 1, 0, none⟩) 2 2] 111)).heap.size = w.heap.size + 1 + 1 + 1 + 1 + 1 := by rw [World.size_alloc, n4]
  obtain ⟨W5, hW5⟩ : ∃ W5, W4.alloc (.cells #[.string ⟨#[97]⟩, .slice (some ⟨w.heap.size, 0, none⟩) 4 4, .string ⟨#[98]⟩, .slice (some ⟨w.heap.size + 1 + 1, 0, none⟩) 2 2] 111) = W5 := ⟨_, rfl⟩
  rw [hW5] at b5 c5 d5 l5 n5 ⊢
  clear hW5
  have e6 := Blk.new W5 108 #[.int .i64 0, .int .i64 0, .int .i64 4, .int .i64 2, .int .i64 0, .int .i64 0, .int .i64 1000, .int .i64 1, .int .i64 0, .int .i64 2, .int .i64 (-1), .int .i64 0, .int .i64 0, .int .i64 1000]
  rw [n5] at e6
  have b6 := b5.alloc (.cells #[.int .i64 0, .int .i64 0, .int .i64 4, .int .i64 2, .int .i64 0, .int .i64 0, .int .i64 1000, .int .i64 1, .int .i64 0, .int .i64 2, .int .i64 (-1), .int .i64 0, .int .i64 0, .int .i64 1000] 108)
  have c6 := c5.alloc (.cells #[.int .i64 0, .int .i64 0, .int .i64 4, .int .i64 2, .int .i64 0, .int .i64 0, .int .i64 1000, .int .i64 1, .int .i64 0, .int .i64 2, .int .i64 (-1), .int .i64 0, .int .i64 0, .int .i64 1000] 108)
  have d6 := d5.alloc (.cells #[.int .i64 0, .int .i64 0, .int .i64 4, .int .i64 2, .int .i64 0, .int .i64 0, .int .i64 1000, .int .i64 1, .int .i64 0, .int .i64 2, .int .i64 (-1), .int .i64 0, .int .i64 0, .int .i64 1000] 108)
  have l6 := l5.alloc (by omega) (.cells #[.int .i64 0, .int .i64 0, .int .i64 4, .int .i64 2, .int .i64 0, .int .i64 0, .int .i64 1000, .int .i64 1, .int .i64 0, .int .i64 2, .int .i64 (-1), .int .i64 0, .int .i64 0, .int .i64 1000] 108)
  go_ret2
  refine ⟨_, _, _, _, some ⟨w.heap.size, 0, none⟩, some ⟨w.heap.size + 1 + 1, 0, none⟩, rfl, ⟨rfl, reads_blk d6 d6.lt rfl rfl, fun t ht => ?_⟩, ⟨rfl, reads_blk e6 e6.lt rfl rfl⟩, l6⟩
  simp only [exL, List.mem_cons, List.not_mem_nil, or_false] at ht
  rcases ht with rfl | rfl
  · exact ⟨rfl, reads_blk b6 b6.lt rfl rfl⟩
  · exact ⟨rfl, reads_blk c6 c6.lt rfl rfl⟩

theorem rend_len (A1 A2 : Option Addr) : (rnRes (exL A1 A2) exP).length = 7 := by rw [ex_res]; rfl
theorem ex_sil (A1 A2 : Option Addr) : slEr 100 2 (rnRes (exL A1 A2) exP) = 0 ∧ slRes 100 2 (rnRes (exL A1 A2) exP) = [(0, 3)] := by rw [ex_res]; exact ⟨by kernel_rfl, by kernel_rfl⟩

set_option maxRecDepth 100000 in
set_option maxHeartbeats 4000000 in
theorem Works_any (w : World) : Calls Try.prog 18 #[] w fun e w' => e = .returned (.bool true) ∧ Below w.heap.size w w' := by
  go_enter Try.func18, Try.ntmps18
  go_wp2_with fail
  refine (Example_any _).mono ?_
  rintro e w1 ⟨A, c, A', c', A1, A2, rfl, hT, hP, hb1⟩
  have HT := Lib.hid hT
  have HP := Lib.hid hP
  have HB1 := Lib.hid hb1
  clear hT hP hb1
  go_wp2_with fail
  refine (Render_any _ _ _ _ _ _ _ (exL A1 A2) exP _ HT.out HP.out (Nat.le_refl _) (by omega) (by omega) (ex_tsm _ _)).mono ?_
  rintro e w2 ⟨v, rfl, hown, hb2⟩
  rw [ex_er]
  obtain ⟨Av, cv, rfl, hrd⟩ := own_reads hown
  rw [rend_len] at hrd ⊢
  have HRS : Hid (RS w2 w2.heap.size Av 7 (rnRes (exL A1 A2) exP)) := Lib.hid ⟨(rend_len _ _).symm, hrd⟩
  have HB2 : Hid (Below w.heap.size w w2) := Lib.hid (HB1.out.trans (hb2.mono HB1.out.size))
  clear hown hb2 hrd
  go_wp2_with fail
  refine (Silences_any _ _ _ _ _ 100 2 _ HRS.out (Nat.le_refl _) (by omega)).mono ?_
  rintro e w3 ⟨v, rfl, hown, hb3⟩
  rw [(ex_sil A1 A2).1]
  rw [(ex_sil A1 A2).2] at hown
  obtain ⟨As, cs, rfl, hrd⟩ := own_reads hown
  have h7 := HRS.out.below hb3 (Nat.le_refl _)
  obtain ⟨ad, hA, hbl, y1, y2⟩ := h7.at_ (k := 5) (by rw [rend_len]; omega)
  have hx5 : (rnRes (exL A1 A2) exP)[5]'(by rw [rend_len]; omega) = (1400, -400) := by simp [ex_res]
  rw [hx5] at y1 y2
  obtain rfl := hA
  obtain ⟨ad2, hA2, hbl2, hc2⟩ := hrd.2 (by simp)
  obtain rfl := hA2
  have z1 := hc2 0 _ rfl
  have z2 := hc2 1 _ rfl
  have HB3 : Hid (Below w.heap.size w w3) := Lib.hid (HB2.out.trans (hb3.mono HB2.out.size))
  have x1 : w3.cell? ⟨ad.block, ad.off + 10, none⟩ = some (.int .i64 1400) := y1
  have x2 : w3.cell? ⟨ad.block, ad.off + 10 + 1, none⟩ = some (.int .i64 (-400)) := y2
  have x3 : w3.cell? ad2 = some (.int .i64 0) := z1
  have x4 : w3.cell? ⟨ad2.block, ad2.off + 1, none⟩ = some (.int .i64 3) := z2
  clear hown hb3 hrd h7 hx5 hc2 y1 y2 z1 z2
  have hq : ∀ W, Sem.run Try.prog (Op.equalIn 10000 101 (.agg #[.int .i64 0, .int .i64 3]) (.agg #[.int .i64 0, .int .i64 3])) W = .ok true W := fun _ => by kernel_rfl
  go_wp2
  go_ret
  exact ⟨rfl, HB3.out⟩
end Go.Proofs.Ytjaomjbhkgijbaa

/-
  cmp.Or over errors; words for blocks.
-/
namespace Go.Proofs.Ytjaomjbhkgijbaa
open Go.RowKit

theorem cell_al {W : World} {p : Addr} {v : Value} (o : Obj) (h : W.cell? p = some v) : (W.alloc o).cell? p = some v := (((Below.refl _ W).alloc (Nat.le_refl _) o).cell (World.block_lt_of_cell? W p h)).trans h
theorem cell_dr {W : World} {p : Addr} {v : Value} (h : W.cell? p = some v) : W.drew.cell? p = some v := h
theorem reads_cells {w : World} {g size n : Nat} {t : TypeId} {cs : Array Value} {B : Nat} {xs : List Value} (h : Blk w g t cs) (hB : g < B) (hc : cs.toList = xs) (hl : xs.length = n * size) : Reads w B size (some ⟨g, 0, none⟩) n xs := by
  refine ⟨hl, fun _ => ⟨_, rfl, hB, fun j u hu => ?_⟩⟩
  rw [show (⟨g, 0, none⟩ : Addr).add j = ⟨g, j, none⟩ from by unfold Addr.add; split <;> simp_all]
  rw [h.cell, ← hu, ← hc, Array.getElem?_toList]
theorem blk_dr {w : World} {t : TypeId} {cs : Array Value} {b : Nat} (h : w.heap.size = b) : Blk (w.alloc (.cells cs t)).drew b t cs := h ▸ Blk.new _ _ _
theorem blk_al {w : World} {t : TypeId} {cs : Array Value} {b : Nat} (h : w.heap.size = b) : Blk (w.alloc (.cells cs t)) b t cs := h ▸ Blk.new _ _ _
theorem info_i64 : (Try.prog.info? 2).map (fun i => (i.zero, i.size, i.bytes)) = some (some (.int .i64 0), 1, 8) := by kernel_rfl

/-- The first of some errors that is not 0. -/
def orL : List Int → Int
  | [] => 0
  | x :: xs => if x = 0 then orL xs else x

set_option maxHeartbeats 1000000 in
theorem cmpOr_any (B : Nat) (A : Option Addr) (n c : Nat) (xs : List Int) (w : World) (h0 : n = xs.length) (h1 : Reads w B 1 A n (xs.map (Value.int .i64))) (_hB : B ≤ w.heap.size) (hl : n ≤ 9223372036854775807) :
    Calls Try.prog 101 #[.slice A n c] w fun e w' => e = .returned (.int .i64 (orL xs)) ∧ w = w' := by
  have HN := Lib.hid h0
  have H := Lib.hid h1
  obtain ⟨R, hR⟩ : ∃ R, orL xs = R := ⟨_, rfl⟩
  rw [hR]
  have HR := Lib.hid hR
  clear h0 h1 hR
  go_enter Try.func101, Try.ntmps101
  go_wp2
  go_loop [8] (fun i => ∃ k : Nat, k ≤ n ∧ i = .int .i64 k ∧ Hid (orL (xs.drop k) = R)) (fun i => n - (intOf i).toNat)
  case atStart => exact ⟨0, Nat.zero_le _, rfl, HR⟩
  case round =>
    clear HR
    obtain ⟨k, hk, rfl, hv⟩ := hrel
    by_cases hlt : k < n
    · have hd : xs.drop k = xs[k]'(by have := HN.out; omega) :: xs.drop (k + 1) := List.drop_eq_getElem_cons (by have := HN.out; omega)
      have HD := Lib.hid hd
      clear hd
      obtain ⟨ad, hA, hbl, hc⟩ := H.out.2 (by omega)
      have hc1 := hc k (.int .i64 (xs[k]'(by have := HN.out; omega))) (by simp)
      clear hc
      obtain rfl := hA
      by_cases hx : (xs[k]'(by have := HN.out; omega)) = 0
      · have HX := Lib.hid hx
        rw [hx] at hc1
        clear hx
        go_wp2
        go_round
        case rel => exact ⟨k + 1, by omega, by go_num, Lib.hid (by rw [← hv.out, HD.out, orL, if_pos HX.out])⟩
        case measure => simp [intOf]; omega
      · have hx2 : ((xs[k]'(by have := HN.out; omega)) == 0) = false := beq_eq_false_iff_ne.2 hx
        have hx3 : ((xs[k]'(by have := HN.out; omega)) != 0) = true := by rw [bne_iff_ne]; exact hx
        have HX := Lib.hid hx
        clear hx
        go_wp2
        go_ret
        exact ⟨ret_i (by rw [← hv.out, HD.out, orL, if_neg HX.out]), rfl⟩
    · go_wp2
      go_ret
      exact ⟨ret_i (by rw [← hv.out, List.drop_eq_nil_of_le (by have := HN.out; omega)]; rfl), rfl⟩
end Go.Proofs.Ytjaomjbhkgijbaa

/-
  Lists of numbers in memory; rows of the call's own; slices of numbers.
-/
namespace Go.Proofs.Ytjaomjbhkgijbaa
open Go.RowKit

/-- '.slice A n c' reads as the numbers ws. -/
def LI (w : World) (B : Nat) (A : Option Addr) (n : Nat) (ws : List Int) : Prop := n = ws.length ∧ Reads w B 1 A n (ws.map (.int .i64 ·))
section
variable {w w' : World} {B B' n : Nat} {A : Option Addr} {ws : List Int}
theorem LI.below (h : LI w B A n ws) (hb : Below B' w w') (hB : B ≤ B') : LI w' B A n ws := ⟨h.1, h.2.below hb hB⟩
theorem LI.more (h : LI w B A n ws) (hB : B ≤ B') : LI w B' A n ws := ⟨h.1, h.2.more hB⟩
theorem LI.at_ (h : LI w B A n ws) {k : Nat} (hk : k < ws.length) : ∃ ad, A = some ad ∧ ad.block < B ∧ w.cell? (ad.add k) = some (.int .i64 ws[k]) := by
  obtain ⟨rfl, hr⟩ := h
  obtain ⟨ad, e, hb, hc⟩ := hr.2 (by omega)
  exact ⟨ad, e, hb, hc k _ (by simp [hk])⟩
theorem LI.none_ : LI w B A 0 [] := ⟨rfl, by simp, fun h => absurd h (by omega)⟩
end

abbrev nums (l : List Int) : List Value := l.map (.int .i64 ·)
theorem own_base_ {W : World} {base base' : Nat} {e : TypeId} {size n : Nat} {v : Value} {xs : List Value} (h : W.ownsRow base e size v n xs) (hb : base' ≤ base) : W.ownsRow base' e size v n xs := by
  refine ⟨h.1, h.2.imp id ?_⟩
  rintro ⟨g, cap, cur, hv, hbg, rest⟩
  exact ⟨g, cap, cur, hv, by omega, rest⟩
theorem own_at {w : World} {base : Nat} {e : TypeId} {n c j : Nat} {A : Option Addr} {xs : List Value} (h : w.ownsRow base e 1 (.slice A n c) n xs) (hj : j < n) :
    ∃ g, A = some ⟨g, 0, none⟩ ∧ g < w.heap.size ∧ w.cell? ⟨g, j, none⟩ = xs[j]? := by
  have hl := h.1
  have e : ∀ g : Nat, (⟨g, 0, none⟩ : Addr).add j = ⟨g, j, none⟩ := fun g => by
    unfold Addr.add; split
    · rename_i h; subst h; rfl
    · simp
  rcases h.2 with ⟨h', hn⟩ | ⟨g, cap, cur, hv, _⟩
  · omega
  · injection hv with hA _ _
    subst hA
    exact ⟨g, rfl, (h.lt g rfl).2, by rw [← e, h.cells (g := g) rfl j _ (List.getElem?_eq_getElem (by omega))]; exact (List.getElem?_eq_getElem (by omega)).symm⟩

/-- Growth by a block of cells keeps all that is no cells. -/
theorem keeps_grown {X Y : World} {row : Option Nat} (hg : X.grownBy Y row) (hr : ∀ r, row = some r → ∃ o : Obj, X.heap[r]? = some o ∧ o.isCells = true) : KeepsOthers X Y :=
  ⟨hg.size, fun k o hk ho => (hg.block k (Array.getElem?_eq_some_iff.1 hk).1 (fun e => by
    obtain ⟨o', h1, h2⟩ := hr k e.symm
    rw [hk] at h1; cases h1; rw [ho] at h2; cases h2)).trans hk⟩
theorem own_cellsR {W : World} {base n size : Nat} {e : TypeId} {v : Value} {xs : List Value} (h : W.ownsRow base e size v n xs) : ∀ r, v.ownBlock = some r → ∃ o : Obj, W.heap[r]? = some o ∧ o.isCells = true := by
  intro r hr
  rcases h.2 with ⟨rfl, _⟩ | ⟨g, cap, cur, rfl, _, hg, _⟩
  · simp [Value.ownBlock] at hr
  · simp [Value.ownBlock] at hr
    subst hr
    exact ⟨_, hg, rfl⟩
theorem keeps_below {X Y : World} (h : Below X.heap.size X Y) : KeepsOthers X Y := ⟨h.size, fun k _ hk _ => (h.block k (Array.getElem?_eq_some_iff.1 hk).1).trans hk⟩

/-- A row of the call's own, as a list. -/
theorem li_own {w : World} {base n : Nat} {v : Value} {xs : List Int} (h : w.ownsRow base 2 1 v n (nums xs)) : ∃ A c, v = .slice A n c ∧ LI w w.heap.size A n xs := by
  obtain ⟨A, c, hv, hr⟩ := own_reads h
  exact ⟨A, c, hv, by have := h.1; simpa using this.symm, hr⟩
theorem li_new (w : World) (xs : List Int) : LI (w.alloc (.cells (nums xs).toArray 2)) (w.heap.size + 1) (some ⟨w.heap.size, 0, none⟩) xs.length xs :=
  ⟨rfl, by simp, fun _ => ⟨_, rfl, Nat.lt_succ_self _, nine_new w (nums xs) _⟩⟩
theorem li_blk {w : World} {g B n : Nat} {cs : Array Value} {xs : List Int} (h : Blk w g 2 cs) (hB : g < B) (hc : cs.toList = nums xs) (hn : n = xs.length) : LI w B (some ⟨g, 0, none⟩) n xs :=
  ⟨hn, reads_cells h hB hc (by simp [hn])⟩
theorem rs_blk {w : World} {g B n : Nat} {t : TypeId} {cs : Array Value} {xs : List Smp} (h : Blk w g t cs) (hB : g < B) (hc : cs.toList = smpCells xs) (hn : n = xs.length) : RS w B (some ⟨g, 0, none⟩) n xs :=
  ⟨hn, reads_cells h hB hc (by rw [smpCells_length, hn])⟩
theorem el_i64s : Try.prog.elem 41 = 2 := by kernel_rfl
theorem size_i64 (W : World) : (sizeOf 2).run Try.prog W = .ok 1 W := by kernel_rfl
theorem nums_to (A : Option Addr) (m n c : Nat) (h : m ≤ c) (W : World) : (Instr.slice 41 (.slice A n c) none (some (.int .i64 (m : Int))) none).run Try.prog W = .ok (.slice A m c) W := by
  rw [run_slice_h (P := Try.prog) W 41 A n c (by rw [el_i64s]; exact Try.underlying41) .i64 (m : Int) (by omega) (by omega), el_i64s, size_i64]
  by_cases h0 : c = 0
  · subst h0
    simp [sliced, Result.andThen]
  · have e : A.map (fun x => x.add 0) = A := by cases A <;> simp [Addr.add]
    simp [sliced, Result.andThen, h0, e]
/-- Where the rest of a list begins. -/
def restA (A : Option Addr) (c m : Nat) : Option Addr := if c = m then A else A.map (·.add m)
theorem nums_from (A : Option Addr) (kl : IntKind) (m n c : Nat) (h : m ≤ n) (W : World) : (Instr.slice 41 (.slice A n c) (some (.int kl (m : Int))) none none).run Try.prog W = .ok (.slice (restA A c m) (n - m) (c - m)) W := by
  rw [run_slice_l (P := Try.prog) W 41 A n c (by rw [el_i64s]; exact Try.underlying41) kl (m : Int) (by omega) (by omega), el_i64s, size_i64]
  simp [sliced, Result.andThen, restA]
theorem LI.take {w : World} {B : Nat} {A : Option Addr} {n : Nat} {l : List Int} (h : LI w B A n l) (m : Nat) (hm : m ≤ n) : LI w B A m (l.take m) := by
  obtain ⟨rfl, h⟩ := h
  refine ⟨by rw [List.length_take]; omega, by simp; omega, fun hn => ?_⟩
  obtain ⟨ad, e, hb, hc⟩ := h.2 (by omega)
  refine ⟨ad, e, hb, fun j u hu => hc j u ?_⟩
  have hj : j < m := by have := (List.getElem?_eq_some_iff.1 hu).1; simp at this; omega
  rw [List.getElem?_map] at hu ⊢
  rwa [List.getElem?_take_of_lt hj] at hu
theorem LI.drop {w : World} {B : Nat} {A : Option Addr} {n c : Nat} {l : List Int} (h : LI w B A n l) (m : Nat) (hm : m ≤ n) (hc : n ≤ c) : LI w B (restA A c m) (n - m) (l.drop m) := by
  obtain ⟨rfl, h⟩ := h
  refine ⟨by rw [List.length_drop], by simp, fun hn => ?_⟩
  obtain ⟨ad, rfl, hb, hcell⟩ := h.2 (by omega)
  unfold restA
  rw [if_neg (by omega)]
  refine ⟨ad.add m, rfl, by rw [block_of_add]; exact hb, fun j u hu => ?_⟩
  rw [add_of_add]
  refine hcell _ u ?_
  rw [List.getElem?_map] at hu ⊢
  rwa [List.getElem?_drop] at hu
theorem own_readsU {w : World} {base n : Nat} {v : Value} {xs : List Int} (h : w.ownsRow base 2 1 v n (nums xs)) : ∃ A c, v = .slice A n c ∧ LI w w.heap.size A n xs ∧ n ≤ c := by
  obtain ⟨A, c, rfl, h1⟩ := li_own h
  refine ⟨A, c, rfl, h1, ?_⟩
  rcases h.2 with ⟨e, hn⟩ | ⟨g, cap, cur, e, _, _, h2, _⟩
  · simp only [Value.slice.injEq] at e; omega
  · simp only [Value.slice.injEq] at e; omega

theorem blk_keptR {X Y : World} {g : Nat} {t : TypeId} {cs : Array Value} {row : Option Nat} (h : Blk X g t cs) (hg : X.grownBy Y row) (hr : ∀ r, row = some r → ∃ o : Obj, X.heap[r]? = some o ∧ o.isCells = false) : Blk Y g t cs := by
  refine (hg.block g h.lt (fun e => ?_)).trans h
  obtain ⟨o, ho, hc⟩ := hr g e.symm
  rw [show X.heap[g]? = _ from h] at ho
  cases ho; cases hc
theorem own_keptR {X Y : World} {base n size : Nat} {e : TypeId} {v : Value} {xs : List Value} {row : Option Nat} (h : X.ownsRow base e size v n xs) (hg : X.grownBy Y row) (hr : ∀ r, row = some r → ∃ o : Obj, X.heap[r]? = some o ∧ o.isCells = false) : Y.ownsRow base e size v n xs := by
  refine ⟨h.1, h.2.imp id ?_⟩
  rintro ⟨g, cap, cur, hv, hb, hg', rest⟩
  exact ⟨g, cap, cur, hv, hb, blk_keptR (t := e) (cs := cur) hg' hg hr, rest⟩
end Go.Proofs.Ytjaomjbhkgijbaa

