/-
  Contracts of the verifier's example and of its word 'Works'.
-/
import Derived.Test.YtbcahkklhdnboaaC3
import Derived.Test.YtbcahkklhdnboaaA9
namespace Go.Proofs.Ytbcahkklhdnboaa
open Go.RowKit

def exL (A1 A2 : Option Addr) : List TV := [⟨⟨#[97]⟩, A1, 4, 4, [(100, -100), (200, -200), (300, -300), (400, -400)]⟩, ⟨⟨#[98]⟩, A2, 2, 2, [(1000, 0), (1000, 0)]⟩]
def exP : List Prt := [⟨0, 0, 4, 2, 0, 0, 1000⟩, ⟨1, 0, 2, -1, 0, 0, 1000⟩]
theorem ex_er (A1 A2 : Option Addr) : rnEr (exL A1 A2) exP = 0 := by kernel_rfl
theorem ex_res (A1 A2 : Option Addr) : rnRes (exL A1 A2) exP = [(0, 0), (0, 0), (100, -100), (200, -200), (300, -300), (1400, -400), (1000, 0)] := by kernel_rfl
theorem ex_tsm (A1 A2 : Option Addr) : TSm (exL A1 A2) := by
  intro t ht
  simp only [exL, List.mem_cons, List.not_mem_nil, or_false] at ht
  rcases ht with rfl | rfl <;> exact ⟨by simp, by simp [ByteArray.size]⟩

def ExPost (w : World) (e : Ending) (w' : World) : Prop :=
  ∃ A c A' c' A1 A2, e = .returned (.tuple #[.slice A 2 c, .slice A' 2 c']) ∧ RT w' w'.heap.size A 2 (exL A1 A2) ∧ RP w' w'.heap.size A' 2 exP ∧ Below w.heap.size w w'

theorem reads_blk {w : World} {g size n : Nat} {t : TypeId} {cs : Array Value} {B : Nat} {xs : List Value} (h : Blk w g t cs) (hB : g < B) (hc : cs.toList = xs) (hl : xs.length = n * size) : Reads w B size (some ⟨g, 0, none⟩) n xs := by
  refine ⟨hl, fun _ => ⟨_, rfl, hB, fun j u hu => ?_⟩⟩
  rw [show (⟨g, 0, none⟩ : Addr).add j = ⟨g, j, none⟩ from by unfold Addr.add; split <;> simp_all]
  rw [h.cell, ← hu, ← hc, Array.getElem?_toList]

set_option maxRecDepth 100000 in
set_option maxHeartbeats 4000000 in
theorem Example_any (w : World) : Calls Try.prog 33 #[] w (ExPost w) := by
  go_enter Try.func33, Try.ntmps33
  go_wp2
  obtain ⟨W1, hW1⟩ : ∃ W1, w.alloc (.cells #[.int .i64 100, .int .i64 (-100), .int .i64 200, .int .i64 (-200), .int .i64 300, .int .i64 (-300), .int .i64 400, .int .i64 (-400)] 39) = W1 := ⟨_, rfl⟩
  have n1 : W1.heap.size = w.heap.size + 1 := by rw [← hW1]; simp
  have b1 : Blk W1 w.heap.size 39 #[.int .i64 100, .int .i64 (-100), .int .i64 200, .int .i64 (-200), .int .i64 300, .int .i64 (-300), .int .i64 400, .int .i64 (-400)] := by rw [← hW1]; exact Blk.new _ _ _
  have l1 : Below w.heap.size w W1 := by rw [← hW1]; exact (Below.refl _ _).alloc (Nat.le_refl _) _
  rw [hW1]
  clear hW1
  obtain ⟨W2, hW2⟩ : ∃ W2, W1.alloc (.cells #[.string ⟨#[97]⟩, .slice (some ⟨w.heap.size, 0, none⟩) 4 4] 57) = W2 := ⟨_, rfl⟩
  have n2 : W2.heap.size = w.heap.size + 1 + 1 := by rw [← hW2, World.size_alloc, n1]
  have b2 := b1.alloc (.cells #[.string ⟨#[97]⟩, .slice (some ⟨w.heap.size, 0, none⟩) 4 4] 57)
  have l2 := l1.alloc (by omega) (.cells #[.string ⟨#[97]⟩, .slice (some ⟨w.heap.size, 0, none⟩) 4 4] 57)
  rw [hW2] at b2 l2 ⊢
  clear hW2
  obtain ⟨W3, hW3⟩ : ∃ W3, W2.alloc (.cells #[.int .i64 1000, .int .i64 0, .int .i64 1000, .int .i64 0] 39) = W3 := ⟨_, rfl⟩
  have n3 : W3.heap.size = w.heap.size + 1 + 1 + 1 := by rw [← hW3, World.size_alloc, n2]
  have b3 := b2.alloc (.cells #[.int .i64 1000, .int .i64 0, .int .i64 1000, .int .i64 0] 39)
  have c3 := Blk.new W2 39 #[.int .i64 1000, .int .i64 0, .int .i64 1000, .int .i64 0]
  have l3 := l2.alloc (by omega) (.cells #[.int .i64 1000, .int .i64 0, .int .i64 1000, .int .i64 0] 39)
  rw [hW3] at b3 l3 c3 ⊢
  clear hW3
  rw [n2] at c3
  obtain ⟨o4, ho4⟩ : ∃ o4, Obj.cells #[.string ⟨#[98]⟩, .slice (some ⟨w.heap.size + 1 + 1, 0, none⟩) 2 2] 57 = o4 := ⟨_, rfl⟩
  rw [ho4]
  have b4 := b3.alloc o4
  have c4 := c3.alloc o4
  have l4 := l3.alloc (by omega) o4
  have n4 : (W3.alloc o4).heap.size = w.heap.size + 1 + 1 + 1 + 1 := by rw [World.size_alloc, n3]
  obtain ⟨W4, hW4⟩ : ∃ W4, W3.alloc o4 = W4 := ⟨_, rfl⟩
  rw [hW4] at b4 c4 l4 n4 ⊢
  clear hW4 ho4
  have d5 := Blk.new W4 57 #[.string ⟨#[97]⟩, .slice (some ⟨w.heap.size, 0, none⟩) 4 4, .string ⟨#[98]⟩, .slice (some ⟨w.heap.size + 1 + 1, 0, none⟩) 2 2]
  rw [n4] at d5
  have b5 := b4.alloc (.cells #[.string ⟨#[97]⟩, .slice (some ⟨w.heap.size, 0, none⟩) 4 4, .string ⟨#[98]⟩, .slice (some ⟨w.heap.size + 1 + 1, 0, none⟩) 2 2] 57)
  have c5 := c4.alloc (.cells #[.string ⟨#[97]⟩, .slice (some ⟨w.heap.size, 0, none⟩) 4 4, .string ⟨#[98]⟩, .slice (some ⟨w.heap.size + 1 + 1, 0, none⟩) 2 2] 57)
  have l5 := l4.alloc (by omega) (.cells #[.string ⟨#[97]⟩, .slice (some ⟨w.heap.size, 0, none⟩) 4 4, .string ⟨#[98]⟩, .slice (some ⟨w.heap.size + 1 + 1, 0, none⟩) 2 2] 57)
  have n5 : (W4.alloc (.cells #[.string ⟨#[97]⟩, .slice (some ⟨w.heap.size, 0, none⟩) 4 4, .string ⟨#[98]⟩, .slice (some ⟨w.heap.size + 1 + 1, 0, none⟩) 2 2] 57)).heap.size = w.heap.size + 1 + 1 + 1 + 1 + 1 := by rw [World.size_alloc, n4]
  obtain ⟨W5, hW5⟩ : ∃ W5, W4.alloc (.cells #[.string ⟨#[97]⟩, .slice (some ⟨w.heap.size, 0, none⟩) 4 4, .string ⟨#[98]⟩, .slice (some ⟨w.heap.size + 1 + 1, 0, none⟩) 2 2] 57) = W5 := ⟨_, rfl⟩
  rw [hW5] at b5 c5 d5 l5 n5 ⊢
  clear hW5
  have e6 := Blk.new W5 53 #[.int .i64 0, .int .i64 0, .int .i64 4, .int .i64 2, .int .i64 0, .int .i64 0, .int .i64 1000, .int .i64 1, .int .i64 0, .int .i64 2, .int .i64 (-1), .int .i64 0, .int .i64 0, .int .i64 1000]
  rw [n5] at e6
  have b6 := b5.alloc (.cells #[.int .i64 0, .int .i64 0, .int .i64 4, .int .i64 2, .int .i64 0, .int .i64 0, .int .i64 1000, .int .i64 1, .int .i64 0, .int .i64 2, .int .i64 (-1), .int .i64 0, .int .i64 0, .int .i64 1000] 53)
  have c6 := c5.alloc (.cells #[.int .i64 0, .int .i64 0, .int .i64 4, .int .i64 2, .int .i64 0, .int .i64 0, .int .i64 1000, .int .i64 1, .int .i64 0, .int .i64 2, .int .i64 (-1), .int .i64 0, .int .i64 0, .int .i64 1000] 53)
  have d6 := d5.alloc (.cells #[.int .i64 0, .int .i64 0, .int .i64 4, .int .i64 2, .int .i64 0, .int .i64 0, .int .i64 1000, .int .i64 1, .int .i64 0, .int .i64 2, .int .i64 (-1), .int .i64 0, .int .i64 0, .int .i64 1000] 53)
  have l6 := l5.alloc (by omega) (.cells #[.int .i64 0, .int .i64 0, .int .i64 4, .int .i64 2, .int .i64 0, .int .i64 0, .int .i64 1000, .int .i64 1, .int .i64 0, .int .i64 2, .int .i64 (-1), .int .i64 0, .int .i64 0, .int .i64 1000] 53)
  go_ret2
  refine ⟨_, _, _, _, some ⟨w.heap.size, 0, none⟩, some ⟨w.heap.size + 1 + 1, 0, none⟩, rfl, ⟨rfl, reads_blk d6 d6.lt rfl rfl, fun t ht => ?_⟩, ⟨rfl, reads_blk e6 e6.lt rfl rfl⟩, l6⟩
  simp only [exL, List.mem_cons, List.not_mem_nil, or_false] at ht
  rcases ht with rfl | rfl
  · exact ⟨rfl, reads_blk b6 b6.lt rfl rfl⟩
  · exact ⟨rfl, reads_blk c6 c6.lt rfl rfl⟩

theorem rend_len (A1 A2 : Option Addr) : (rnRes (exL A1 A2) exP).length = 7 := by rw [ex_res]; rfl
theorem ex_sil (A1 A2 : Option Addr) : slEr 100 2 (rnRes (exL A1 A2) exP) = 0 ∧ slRes 100 2 (rnRes (exL A1 A2) exP) = [(0, 3)] := by rw [ex_res]; exact ⟨by kernel_rfl, by kernel_rfl⟩

set_option maxRecDepth 100000 in
set_option maxHeartbeats 4000000 in
theorem Works_any (w : World) : Calls Try.prog 13 #[] w fun e w' => e = .returned (.bool true) ∧ Below w.heap.size w w' := by
  go_enter Try.func13, Try.ntmps13
  go_wp2_with fail
  refine (Example_any _).mono ?_
  rintro e w1 ⟨A, c, A', c', A1, A2, rfl, hT, hP, hb1⟩
  have HT := Lib.hid hT
  have HP := Lib.hid hP
  have HB1 := Lib.hid hb1
  clear hT hP hb1
  go_wp2_with fail
  refine (Render_any _ _ _ _ _ _ _ (exL A1 A2) exP _ HT.out HP.out (Nat.le_refl _) (by omega) (by omega) (ex_tsm _ _)).mono ?_
  rintro e w2 ⟨v, rfl, hown, hb2⟩
  rw [ex_er]
  obtain ⟨Av, cv, rfl, hrd⟩ := own_reads hown
  rw [rend_len] at hrd ⊢
  have HRS : Hid (RS w2 w2.heap.size Av 7 (rnRes (exL A1 A2) exP)) := Lib.hid ⟨(rend_len _ _).symm, hrd⟩
  have HB2 : Hid (Below w.heap.size w w2) := Lib.hid (HB1.out.trans (hb2.mono HB1.out.size))
  clear hown hb2 hrd
  go_wp2_with fail
  refine (Silences_any _ _ _ _ _ 100 2 _ HRS.out (Nat.le_refl _) (by omega)).mono ?_
  rintro e w3 ⟨v, rfl, hown, hb3⟩
  rw [(ex_sil A1 A2).1]
  rw [(ex_sil A1 A2).2] at hown
  obtain ⟨As, cs, rfl, hrd⟩ := own_reads hown
  have h7 := HRS.out.below hb3 (Nat.le_refl _)
  obtain ⟨ad, hA, hbl, y1, y2⟩ := h7.at_ (k := 5) (by rw [rend_len]; omega)
  have hx5 : (rnRes (exL A1 A2) exP)[5]'(by rw [rend_len]; omega) = (1400, -400) := by simp [ex_res]
  rw [hx5] at y1 y2
  obtain rfl := hA
  obtain ⟨ad2, hA2, hbl2, hc2⟩ := hrd.2 (by simp)
  obtain rfl := hA2
  have z1 := hc2 0 _ rfl
  have z2 := hc2 1 _ rfl
  have HB3 : Hid (Below w.heap.size w w3) := Lib.hid (HB2.out.trans (hb3.mono HB2.out.size))
  have x1 : w3.cell? ⟨ad.block, ad.off + 10, none⟩ = some (.int .i64 1400) := y1
  have x2 : w3.cell? ⟨ad.block, ad.off + 10 + 1, none⟩ = some (.int .i64 (-400)) := y2
  have x3 : w3.cell? ad2 = some (.int .i64 0) := z1
  have x4 : w3.cell? ⟨ad2.block, ad2.off + 1, none⟩ = some (.int .i64 3) := z2
  clear hown hb3 hrd h7 hx5 hc2 y1 y2 z1 z2
  have hq : ∀ W, Sem.run Try.prog (Op.equalIn 10000 67 (.agg #[.int .i64 0, .int .i64 3]) (.agg #[.int .i64 0, .int .i64 3])) W = .ok true W := fun _ => by kernel_rfl
  go_wp2
  go_ret
  exact ⟨rfl, HB3.out⟩
end Go.Proofs.Ytbcahkklhdnboaa
