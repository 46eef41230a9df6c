/-
  The document's edges, arc and breaks: which rule an edge breaks at an index.
-/
import Derived.Test.YtaiigdbbpdkamaaJ4
import Derived.Test.YtaiigdbbpdkamaaW2
import Derived.Test.YtaiigdbbpdkamaaW3
import Derived.Test.YtaiigdbbpdkamaaK9
namespace Go.Proofs.Ytaiigdbbpdkamaa
open Go.RowKit

theorem info_i64 : (Try.prog.info? 2).map (fun i => (i.zero, i.size, i.bytes)) = some (some (.int .i64 0), 1, 8) := by kernel_rfl
/-- An edge of a point. -/
def edg (o : Bool) (p : Smp) : Int := if o then p.2 else p.1
abbrev ints (e : List Int) : List Value := e.map (Value.int .i64)
def EdgPost (w : World) (n : Nat) (e : List Int) (x : Ending) (w' : World) : Prop :=
  ∃ A k, x = .returned (.slice A n k) ∧ Reads w' w'.heap.size 1 A n (ints e) ∧ Below w.heap.size w w'
theorem edg_snoc (o : Bool) (l : List Smp) (j : Nat) (h : j < l.length) : ints ((l.take (j + 1)).map (edg o)) = ints ((l.take j).map (edg o)) ++ [.int .i64 (edg o (gAt l j))] := by
  unfold ints; rw [List.take_succ_eq_append_getElem h, List.map_append, List.map_append, gAt_eq h]; rfl

set_option maxRecDepth 100000 in
set_option maxHeartbeats 2000000 in
theorem edges_any (B : Nat) (A : Option Addr) (n k : Nat) (l : List Smp) (o : Bool) (w : World) (h0 : RS w B A n l) (hB : B ≤ w.heap.size) (hl : n ≤ 4096) :
    Calls Try.prog 76 #[.slice A n k, .bool o] w (EdgPost w n (l.map (edg o))) := by
  have HN := Lib.hid h0.1
  have H := Lib.hid (h0.more hB)
  clear h0 hB
  obtain ⟨i0, hi0, hz0, hz1, hz2⟩ := info_parts info_i64
  have HI0 := Lib.hid hi0
  have HZ0 := Lib.hid hz0
  have HZ1 := Lib.hid hz1
  have HZ2 := Lib.hid hz2
  clear hi0 hz0 hz1 hz2
  go_enter Try.func76, Try.ntmps76
  go_wp2_with fail
  go_loopw [5, 6] (fun v z wr => ∃ (j : Nat) (sv : Value), j ≤ n ∧ z = .int .i64 j ∧ sv = v ∧ Hid (wr.ownsRow w.heap.size 2 1 sv j (ints ((l.take j).map (edg o)))) ∧ Hid (Below w.heap.size w wr)) (fun v z wr => n - (intOf z).toNat)
  case atStart => exact ⟨0, _, Nat.zero_le _, rfl, rfl, Lib.hid (World.ownsRow_nil _ _ _ _), Lib.hid (Below.refl _ _)⟩
  case round =>
    obtain ⟨j, sv, hj, rfl, rfl, HO, HB⟩ := hrel
    by_cases hlt : j < n
    · have hjl : j < l.length := by have := HN.out; omega
      obtain ⟨ad, hA, hbl, y1, y2⟩ := (H.out.below HB.out (Nat.le_refl _)).at2 hjl
      obtain rfl := hA
      have HSN := Lib.hid (edg_snoc o l j hjl)
      obtain ⟨x, hx⟩ : ∃ x, gAt l j = x := ⟨_, rfl⟩
      rw [hx] at y1 y2 HSN
      clear hx
      cases o
      · go_wp2_with (at_builtin; refine wpList_append_any _ rfl (.tmp 22) (.tmp 28) _ rfl w.heap.size 2 i0 _ 1 8 Try.underlying108 HI0.out HZ0.out HZ1.out HZ2.out rfl (by omega) sv j _ rfl (HO.out.alloc _) _ _ 1 _ _ rfl (reads_cells (blk_al rfl) (Nat.lt_succ_self _) (by rfl) (by rfl)) (by intro u hu; simp at hu; subst hu; rfl) (by unfold maxLen; omega) (by omega) (by have := HB.out.size; simp; omega) ?_; intro v1 w3 hown1 hgrow1 hblk1)
        have HB := Lib.hid ((HB.out.alloc HB.out.size _).grown hgrow1 (by have := HB.out.size; simp; omega) (fun q e => (HO.out.lt q e).1))
        have HO1 := Lib.hid hown1
        clear hgrow1 hown1 hblk1 y1 y2
        go_wp2
        go_roundw
        case rel => exact ⟨j + 1, v1, by omega, by go_num, rfl, Lib.hid (by rw [HSN.out]; exact HO1.out), HB⟩
        case measure => simp [intOf]; omega
      · go_wp2_with (at_builtin; refine wpList_append_any _ rfl (.tmp 14) (.tmp 20) _ rfl w.heap.size 2 i0 _ 1 8 Try.underlying108 HI0.out HZ0.out HZ1.out HZ2.out rfl (by omega) sv j _ rfl (HO.out.alloc _) _ _ 1 _ _ rfl (reads_cells (blk_al rfl) (Nat.lt_succ_self _) (by rfl) (by rfl)) (by intro u hu; simp at hu; subst hu; rfl) (by unfold maxLen; omega) (by omega) (by have := HB.out.size; simp; omega) ?_; intro v1 w3 hown1 hgrow1 hblk1)
        have HB := Lib.hid ((HB.out.alloc HB.out.size _).grown hgrow1 (by have := HB.out.size; simp; omega) (fun q e => (HO.out.lt q e).1))
        have HO1 := Lib.hid hown1
        clear hgrow1 hown1 hblk1 y1 y2
        go_wp2
        go_roundw
        case rel => exact ⟨j + 1, v1, by omega, by go_num, rfl, Lib.hid (by rw [HSN.out]; exact HO1.out), HB⟩
        case measure => simp [intOf]; omega
    · obtain rfl : n = j := by omega
      have hlen : l.take n = l := List.take_of_length_le (by have := HN.out; omega)
      rw [hlen] at HO
      obtain ⟨Ab, cb, hsb, hrb⟩ := own_reads HO.out
      obtain rfl := hsb
      have HRB := Lib.hid hrb
      clear hrb hlen
      go_wp2
      go_ret
      exact ⟨_, _, rfl, HRB.out, HB.out⟩

set_option maxHeartbeats 1000000 in
theorem refArcN_any (r per : Int) (w : World) (h : SpOk r per) :
    Calls Try.prog 57 #[.int .i64 r, .int .i64 per] w fun e w' => e = .returned (.int .i64 (arcN r per)) ∧ w = w' := by
  obtain ⟨r1, r2, p1, p2⟩ := h
  obtain ⟨b1, b2, b3, b4⟩ := arc_bd r per r1 r2 p1 p2
  have e1 : 710 * r * 710 * r = 710 * r * (710 * r) := by rw [Int.mul_assoc (710 * r) 710 r]
  have e2 : 113 * per * 113 * per = 113 * per * (113 * per) := by rw [Int.mul_assoc (113 * per) 113 per]
  have k1 : 0 ≤ 710 * r * 710 * r ∧ 710 * r * 710 * r ≤ 9223372036854775807 := by rw [e1]; exact ⟨b1, b2⟩
  have k2 : 1 ≤ 113 * per * 113 * per ∧ 113 * per * 113 * per ≤ 9223372036854775807 := by rw [e2]; exact ⟨b3, b4⟩
  have HR : Hid (arcN r per = 710 * r * 710 * r / (113 * per * 113 * per)) := Lib.hid (by unfold arcN; rw [e1, e2])
  obtain ⟨k11, k12⟩ := k1
  obtain ⟨k21, k22⟩ := k2
  clear e1 e2 b1 b2 b3 b4
  go_enter Try.func57, Try.ntmps57
  go_wp2
  go_ret
  exact ⟨ret_i HR.out.symm, rfl⟩
end Go.Proofs.Ytaiigdbbpdkamaa
