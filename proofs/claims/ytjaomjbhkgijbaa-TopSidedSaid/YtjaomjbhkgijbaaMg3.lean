/-
  Parts and placed parts in memory; contracts of validPart, length, end.
-/
import Derived.Test.YtjaomjbhkgijbaaMg2
import Derived.Test.YtjaomjbhkgijbaaMg1
import Derived.Maps.AppendAt

namespace Go.Proofs.Ytjaomjbhkgijbaa
open Go.RowKit

structure Prt where
  tk : Int
  fr : Int
  to : Int
  gp : Int
  fi : Int
  fo : Int
  lv : Int

def prt (p : Prt) : List Value := [.int .i64 p.tk, .int .i64 p.fr, .int .i64 p.to, .int .i64 p.gp, .int .i64 p.fi, .int .i64 p.fo, .int .i64 p.lv]
def prtCells (l : List Prt) : List Value := l.flatMap prt
theorem prtCells_length (l : List Prt) : (prtCells l).length = l.length * 7 := by
  induction l with
  | nil => rfl
  | cons x xs ih => simp [prtCells, prt] at ih ⊢; omega
theorem prtCells_at (l : List Prt) : ∀ (k : Nat) (h : k < l.length) (j : Nat), j < 7 → (prtCells l)[k * 7 + j]? = (prt l[k])[j]? := by
  induction l with
  | nil => intro k h; simp at h
  | cons x xs ih =>
    intro k h j hj
    show ((prt x) ++ prtCells xs)[k * 7 + j]? = _
    cases k with
    | zero => rw [List.getElem?_append_left (by simp [prt]; omega)]; simp
    | succ k =>
      rw [List.getElem?_append_right (by simp [prt]; omega)]
      rw [show (k + 1) * 7 + j - (prt x).length = k * 7 + j from by simp [prt]; omega]
      exact ih k (by simpa using h) j hj

/-- '.slice A n c' reads as the parts l. -/
def RP (w : World) (B : Nat) (A : Option Addr) (n : Nat) (l : List Prt) : Prop := n = l.length ∧ Reads w B 7 A n (prtCells l)
theorem RP.below {w w' : World} {B B' : Nat} {A : Option Addr} {n : Nat} {l : List Prt} (h : RP w B A n l) (hb : Below B' w w') (hB : B ≤ B') : RP w' B A n l := ⟨h.1, h.2.below hb hB⟩
theorem RP.more {w : World} {B B' : Nat} {A : Option Addr} {n : Nat} {l : List Prt} (h : RP w B A n l) (hB : B ≤ B') : RP w B' A n l := ⟨h.1, h.2.more hB⟩
theorem RP.at_ {w : World} {B : Nat} {A : Option Addr} {n : Nat} {l : List Prt} (h : RP w B A n l) {k : Nat} (hk : k < l.length) :
    ∃ ad, A = some ad ∧ ad.block < B ∧ w.cell? (ad.add (k * 7)) = some (.int .i64 l[k].tk) ∧ w.cell? ⟨(ad.add (k * 7)).block, (ad.add (k * 7)).off + 1, none⟩ = some (.int .i64 l[k].fr) ∧
      w.cell? ⟨(ad.add (k * 7)).block, (ad.add (k * 7)).off + 2, none⟩ = some (.int .i64 l[k].to) ∧ w.cell? ⟨(ad.add (k * 7)).block, (ad.add (k * 7)).off + 3, none⟩ = some (.int .i64 l[k].gp) ∧
      w.cell? ⟨(ad.add (k * 7)).block, (ad.add (k * 7)).off + 4, none⟩ = some (.int .i64 l[k].fi) ∧ w.cell? ⟨(ad.add (k * 7)).block, (ad.add (k * 7)).off + 5, none⟩ = some (.int .i64 l[k].fo) ∧
      w.cell? ⟨(ad.add (k * 7)).block, (ad.add (k * 7)).off + 6, none⟩ = some (.int .i64 l[k].lv) := by
  obtain ⟨rfl, hr⟩ := h
  obtain ⟨ad, e, hb, hc⟩ := hr.2 (by omega)
  have g : ∀ j, j < 7 → ∀ u, (prt l[k])[j]? = some u → w.cell? ((ad.add (k * 7)).add j) = some u := by
    intro j hj u hu
    rw [add_of_add]
    exact hc _ _ ((prtCells_at l k hk j hj).trans hu)
  exact ⟨ad, e, hb, g 0 (by omega) _ rfl, g 1 (by omega) _ rfl, g 2 (by omega) _ rfl, g 3 (by omega) _ rfl, g 4 (by omega) _ rfl, g 5 (by omega) _ rfl, g 6 (by omega) _ rfl⟩

theorem within_b {x lo hi : Int} {b : Bool} {w : World} (h : win x lo hi = b) :
    Calls Try.prog 146 #[.int .i64 x, .int .i64 lo, .int .i64 hi] w fun e w' => e = .returned (.bool b) ∧ w' = w :=
  (within_any x lo hi w).mono fun e w' ⟨he, hw⟩ => ⟨by rw [he, h], hw.symm⟩
theorem within64_b {x lo hi : Int} {b : Bool} {w : World} (h : win x lo hi = b) :
    Calls Try.prog 145 #[.int .i64 x, .int .i64 lo, .int .i64 hi] w fun e w' => e = .returned (.bool b) ∧ w' = w :=
  (within64_any x lo hi w).mono fun e w' ⟨he, hw⟩ => ⟨by rw [he, h], hw.symm⟩

/-- Whether a part is valid for takes. -/
def vPart (l : List TV) (p : Prt) : Bool :=
  decide (0 ≤ p.tk) && decide (p.tk < l.length) && decide (0 ≤ p.fr) && decide (p.fr < p.to) && (match l[p.tk.toNat]? with | some t => decide (p.to ≤ t.n) | none => false) &&
    win p.gp (-4096) 4096 && win p.fi 0 1000 && win p.fo 0 1000 && win p.lv 0 4000

set_option maxRecDepth 100000 in
set_option maxHeartbeats 2000000 in
theorem validPart_any (B : Nat) (A : Option Addr) (n c : Nat) (l : List TV) (p : Prt) (w : World) (h0 : RT w B A n l) (hB : B ≤ w.heap.size) :
    Calls Try.prog 91 #[.slice A n c, .agg #[.int .i64 p.tk, .int .i64 p.fr, .int .i64 p.to, .int .i64 p.gp, .int .i64 p.fi, .int .i64 p.fo, .int .i64 p.lv]] w fun e w' => e = .returned (.bool (vPart l p)) ∧ Below w.heap.size w w' := by
  have H := Lib.hid (h0.more hB)
  obtain ⟨hn, -⟩ := h0
  have HN := Lib.hid hn
  clear hn hB
  by_cases t1 : 0 ≤ p.tk
  · by_cases t2 : p.tk < n
    · obtain ⟨m, hm⟩ := Int.eq_ofNat_of_zero_le t1
      have hml : m < l.length := by have := HN.out; omega
      obtain ⟨ad, hA, hbl, h1, h2, h3⟩ := H.out.at_ hml
      obtain rfl := hA
      have hv : vPart l p = (decide (0 ≤ p.fr) && decide (p.fr < p.to) && decide (p.to ≤ l[m].n) && win p.gp (-4096) 4096 && win p.fi 0 1000 && win p.fo 0 1000 && win p.lv 0 4000) := by
        unfold vPart
        have e1 : decide (0 ≤ p.tk) = true := by simpa using t1
        have e2 : decide (p.tk < l.length) = true := by have := HN.out; simp; omega
        rw [e1, e2, show p.tk.toNat = m from by omega, List.getElem?_eq_getElem hml]; simp
      have HV := Lib.hid hv
      have HM := Lib.hid hm
      have hbl' : (ad.add (m * 2)).block < w.heap.size := by rw [block_of_add]; exact hbl
      have m0 : decide ((m : Int) < 0) = false := by simp
      clear h3 hv
      obtain ⟨tk, fr, to, gp, fi, fo, lv⟩ := p
      simp only at *
      subst hm
      clear HM
      by_cases c1 : 0 ≤ fr
      · by_cases c2 : fr < to
        · by_cases c3 : to ≤ (l[m].n : Int)
          · cases c4 : win gp (-4096) 4096
            · have d1 : decide (0 ≤ fr) = true := by simpa using c1
              have D1 := Lib.hid d1
              have d2 : decide (fr < to) = true := by simpa using c2
              have D2 := Lib.hid d2
              have d3 : decide (to ≤ (l[m].n : Int)) = true := by simpa using c3
              have D3 := Lib.hid d3
              have C4 := Lib.hid c4
              clear c4
              go_enter Try.func91, Try.ntmps91
              go_wp2
              go_quiet ((go_at_call 146; with_reducible exact Calls.quiet_of_same (within_b C4.out)))
              go_wp2
              go_ret
              exact ⟨ret_b (by rw [HV.out, D1.out, D2.out, D3.out, C4.out]; simp), below_drewN_ ((Below.refl _ _).alloc (Nat.le_refl _) _) _⟩
            · cases c5 : win fi 0 1000
              · have d1 : decide (0 ≤ fr) = true := by simpa using c1
                have D1 := Lib.hid d1
                have d2 : decide (fr < to) = true := by simpa using c2
                have D2 := Lib.hid d2
                have d3 : decide (to ≤ (l[m].n : Int)) = true := by simpa using c3
                have D3 := Lib.hid d3
                have C4 := Lib.hid c4
                clear c4
                have C5 := Lib.hid c5
                clear c5
                go_enter Try.func91, Try.ntmps91
                go_wp2
                go_quiet (first | (go_at_call 146; with_reducible exact Calls.quiet_of_same (within_b C4.out)) | (go_at_call 146; with_reducible exact Calls.quiet_of_same (within_b C5.out)))
                go_wp2
                go_ret
                exact ⟨ret_b (by rw [HV.out, D1.out, D2.out, D3.out, C4.out, C5.out]; simp), below_drewN_ ((Below.refl _ _).alloc (Nat.le_refl _) _) _⟩
              · cases c6 : win fo 0 1000
                · have d1 : decide (0 ≤ fr) = true := by simpa using c1
                  have D1 := Lib.hid d1
                  have d2 : decide (fr < to) = true := by simpa using c2
                  have D2 := Lib.hid d2
                  have d3 : decide (to ≤ (l[m].n : Int)) = true := by simpa using c3
                  have D3 := Lib.hid d3
                  have C4 := Lib.hid c4
                  clear c4
                  have C5 := Lib.hid c5
                  clear c5
                  have C6 := Lib.hid c6
                  clear c6
                  go_enter Try.func91, Try.ntmps91
                  go_wp2
                  go_quiet (first | (go_at_call 146; with_reducible exact Calls.quiet_of_same (within_b C4.out)) | (go_at_call 146; with_reducible exact Calls.quiet_of_same (within_b C5.out)) | (go_at_call 146; with_reducible exact Calls.quiet_of_same (within_b C6.out)))
                  go_wp2
                  go_ret
                  exact ⟨ret_b (by rw [HV.out, D1.out, D2.out, D3.out, C4.out, C5.out, C6.out]; simp), below_drewN_ ((Below.refl _ _).alloc (Nat.le_refl _) _) _⟩
                · cases c7 : win lv 0 4000
                  · have d1 : decide (0 ≤ fr) = true := by simpa using c1
                    have D1 := Lib.hid d1
                    have d2 : decide (fr < to) = true := by simpa using c2
                    have D2 := Lib.hid d2
                    have d3 : decide (to ≤ (l[m].n : Int)) = true := by simpa using c3
                    have D3 := Lib.hid d3
                    have C4 := Lib.hid c4
                    clear c4
                    have C5 := Lib.hid c5
                    clear c5
                    have C6 := Lib.hid c6
                    clear c6
                    have C7 := Lib.hid c7
                    clear c7
                    go_enter Try.func91, Try.ntmps91
                    go_wp2
                    go_quiet (first | (go_at_call 146; with_reducible exact Calls.quiet_of_same (within_b C4.out)) | (go_at_call 146; with_reducible exact Calls.quiet_of_same (within_b C5.out)) | (go_at_call 146; with_reducible exact Calls.quiet_of_same (within_b C6.out)) | (go_at_call 145; with_reducible exact Calls.quiet_of_same (within64_b C7.out)))
                    go_wp2
                    go_ret
                    exact ⟨ret_b (by rw [HV.out, D1.out, D2.out, D3.out, C4.out, C5.out, C6.out, C7.out]; simp), below_drewN_ ((Below.refl _ _).alloc (Nat.le_refl _) _) _⟩
                  · have d1 : decide (0 ≤ fr) = true := by simpa using c1
                    have D1 := Lib.hid d1
                    have d2 : decide (fr < to) = true := by simpa using c2
                    have D2 := Lib.hid d2
                    have d3 : decide (to ≤ (l[m].n : Int)) = true := by simpa using c3
                    have D3 := Lib.hid d3
                    have C4 := Lib.hid c4
                    clear c4
                    have C5 := Lib.hid c5
                    clear c5
                    have C6 := Lib.hid c6
                    clear c6
                    have C7 := Lib.hid c7
                    clear c7
                    go_enter Try.func91, Try.ntmps91
                    go_wp2
                    go_quiet (first | (go_at_call 146; with_reducible exact Calls.quiet_of_same (within_b C4.out)) | (go_at_call 146; with_reducible exact Calls.quiet_of_same (within_b C5.out)) | (go_at_call 146; with_reducible exact Calls.quiet_of_same (within_b C6.out)) | (go_at_call 145; with_reducible exact Calls.quiet_of_same (within64_b C7.out)))
                    go_wp2
                    go_ret
                    exact ⟨ret_b (by rw [HV.out, D1.out, D2.out, D3.out, C4.out, C5.out, C6.out, C7.out]; simp), below_drewN_ ((Below.refl _ _).alloc (Nat.le_refl _) _) _⟩
          · have d1 : decide (0 ≤ fr) = true := by simpa using c1
            have D1 := Lib.hid d1
            have d2 : decide (fr < to) = true := by simpa using c2
            have D2 := Lib.hid d2
            have d3 : decide (to ≤ (l[m].n : Int)) = false := by simpa using c3
            have D3 := Lib.hid d3
            go_enter Try.func91, Try.ntmps91
            go_wp2
            go_quiet (fail)
            go_wp2
            go_ret
            exact ⟨ret_b (by rw [HV.out, D1.out, D2.out, D3.out]; simp), below_drewN_ ((Below.refl _ _).alloc (Nat.le_refl _) _) _⟩
        · have d1 : decide (0 ≤ fr) = true := by simpa using c1
          have D1 := Lib.hid d1
          have d2 : decide (fr < to) = false := by simpa using c2
          have D2 := Lib.hid d2
          go_enter Try.func91, Try.ntmps91
          go_wp2
          go_quiet (fail)
          go_wp2
          go_ret
          exact ⟨ret_b (by rw [HV.out, D1.out, D2.out]; simp), below_drewN_ ((Below.refl _ _).alloc (Nat.le_refl _) _) _⟩
      · have d1 : decide (0 ≤ fr) = false := by simpa using c1
        have D1 := Lib.hid d1
        go_enter Try.func91, Try.ntmps91
        go_wp2
        go_quiet (fail)
        go_wp2
        go_ret
        exact ⟨ret_b (by rw [HV.out, D1.out]; simp), below_drewN_ ((Below.refl _ _).alloc (Nat.le_refl _) _) _⟩
    · have hv : vPart l p = false := by
        unfold vPart
        have e2 : decide (p.tk < l.length) = false := by have := HN.out; simp; omega
        rw [e2]; simp
      have HV := Lib.hid hv
      clear hv
      go_enter Try.func91, Try.ntmps91
      go_wp2
      go_ret
      exact ⟨ret_b HV.out.symm, (Below.refl _ _).alloc (Nat.le_refl _) _⟩
  · have hv : vPart l p = false := by
      unfold vPart
      have e2 : decide (0 ≤ p.tk) = false := by simp; omega
      rw [e2]; simp
    have HV := Lib.hid hv
    clear hv
    go_enter Try.func91, Try.ntmps91
    go_wp2
    go_ret
    exact ⟨ret_b HV.out.symm, (Below.refl _ _).alloc (Nat.le_refl _) _⟩
end Go.Proofs.Ytjaomjbhkgijbaa

/-
  More words for memory: rows of the call's own that read as lists; what is made with a variable size.
-/
namespace Go.Proofs.Ytjaomjbhkgijbaa
open Go.RowKit

theorem two_new (w : World) (x y : Value) (t : TypeId) : ∀ j u, [x, y][j]? = some u → (w.alloc (.cells #[x, y] t)).cell? ((⟨w.heap.size, 0, none⟩ : Addr).add j) = some u := by
  intro j u hj
  have hb := Blk.new w t #[x, y]
  match j, hj with
  | 0, hj => exact (hb.cell 0).trans hj
  | 1, hj => exact (hb.cell 1).trans hj
  | j + 2, hj => simp at hj

theorem own_below {w w' : World} {base : Nat} {e : TypeId} {size n : Nat} {v : Value} {xs : List Value} (h : w.ownsRow base e size v n xs) (hb : Below w.heap.size w w') : w'.ownsRow base e size v n xs := by
  refine ⟨h.1, h.2.imp id ?_⟩
  rintro ⟨g, cap, cur, hv, hbg, hg, rest⟩
  have hlt : g < w.heap.size := by
    rcases Nat.lt_or_ge g w.heap.size with hlt | hge
    · exact hlt
    · rw [Array.getElem?_eq_none hge] at hg; cases hg
  exact ⟨g, cap, cur, hv, hbg, (hb.block g hlt).trans hg, rest⟩

theorem smpCells_snoc (xs : List Smp) (s : Smp) : smpCells (xs ++ [s]) = smpCells xs ++ [.int .i64 s.1, .int .i64 s.2] := by simp [smpCells]

theorem info_smp : (Try.prog.info? 75).map (fun i => (i.zero, i.size, i.bytes)) = some (some (.agg #[.int .i64 0, .int .i64 0]), 2, 16) := by kernel_rfl

theorem own_reads {w : World} {base : Nat} {e : TypeId} {size : Nat} {v : Value} {n : Nat} {xs : List Value} (h : w.ownsRow base e size v n xs) :
    ∃ A c, v = .slice A n c ∧ Reads w w.heap.size size A n xs := by
  rcases h.2 with ⟨rfl, rfl⟩ | ⟨g, cap, cur, rfl, _⟩
  · exact ⟨none, 0, rfl, h.1, fun hn => absurd hn (by omega)⟩
  · refine ⟨some ⟨g, 0, none⟩, cap, rfl, h.1, fun hn => ⟨⟨g, 0, none⟩, rfl, ?_, h.cells (g := g) rfl⟩⟩
    exact (h.lt g rfl).2

theorem nine_new (w : World) (cs : List Value) (t : TypeId) : ∀ j u, cs[j]? = some u → (w.alloc (.cells cs.toArray t)).cell? ((⟨w.heap.size, 0, none⟩ : Addr).add j) = some u := by
  intro j u hj
  have hb := Blk.new w t cs.toArray
  have e : (⟨w.heap.size, 0, none⟩ : Addr).add j = ⟨w.heap.size, j, none⟩ := by
    unfold Addr.add; split
    · rename_i h; subst h; rfl
    · simp
  rw [e, hb.cell j]; simpa using hj

theorem run_make_rowN {P : Program} (t e : TypeId) (i : TypeInfo) (z : Value) (ht : P.underlying t = some (.slice e)) (hi : P.info? e = some i) (hz : i.zero = some z)
    (kl kc : IntKind) (n c : Nat) (hnc : n ≤ c) (hbytes : i.bytes * c ≤ 281474976710656) (h63 : c ≤ 9223372036854775807) (w : World) :
    (Instr.makeSlice t (.int kl (n : Int)) (.int kc (c : Int))).run P w = .ok (.slice (some ⟨w.heap.size, 0, none⟩) n c) (w.alloc (.cells (madeCells z.cells (c * i.size)) e)) := by
  have hb : (i.bytes : Int) * (c : Int) ≤ 281474976710656 := by
    have h : ((i.bytes * c : Nat) : Int) ≤ 281474976710656 := by omega
    rwa [Int.natCast_mul] at h
  have hr := run_make (P := P) w t e i z ht hi hz kl kc n c (by omega) (by omega) hb (by omega)
  simp only [Int.toNat_natCast] at hr
  exact hr

theorem own_le {w : World} {base : Nat} {e : TypeId} {size n : Nat} {v : Value} {xs : List Value} (h : w.ownsRow base e size v n xs) : n ≤ 9223372036854775807 := by
  rcases h.2 with ⟨rfl, rfl⟩ | ⟨g, cap, cur, rfl, _, _, h1, h2, _⟩
  · omega
  · unfold maxLen at h2; omega
end Go.Proofs.Ytjaomjbhkgijbaa

/-
  Placed parts in memory; contracts of length and end of a placed part, place, length.
-/
namespace Go.Proofs.Ytjaomjbhkgijbaa
open Go.RowKit

structure Pl where
  p : Prt
  ix : Int
  st : Int
def Pl.len (q : Pl) : Int := q.p.to - q.p.fr
def Pl.end_ (q : Pl) : Int := q.st + (q.p.to - q.p.fr)
/-- The bounds of a part that is valid. -/
def PrOk (p : Prt) : Prop := 0 ≤ p.fr ∧ p.fr < p.to ∧ p.to ≤ 4096 ∧ -4096 ≤ p.gp ∧ p.gp ≤ 4096
def PlOk (q : Pl) : Prop := PrOk q.p ∧ -1000000 ≤ q.st ∧ q.st ≤ 1000000

set_option maxHeartbeats 1000000 in
theorem plen_any (q : Pl) (w : World) (h : PrOk q.p) :
    Calls Try.prog 150 #[.agg #[.int .i64 q.p.tk, .int .i64 q.p.fr, .int .i64 q.p.to, .int .i64 q.p.gp, .int .i64 q.p.fi, .int .i64 q.p.fo, .int .i64 q.p.lv, .int .i64 q.ix, .int .i64 q.st]] w
      fun e w' => e = .returned (.int .i64 q.len) ∧ Below w.heap.size w w' := by
  obtain ⟨h1, h2, h3, h4, h5⟩ := h
  go_enter Try.func150, Try.ntmps150
  go_wp2
  go_ret
  exact ⟨ret_i rfl, (Below.refl _ _).alloc (Nat.le_refl _) _⟩

set_option maxHeartbeats 1000000 in
theorem pend_any (q : Pl) (w : World) (h : PlOk q) :
    Calls Try.prog 97 #[.agg #[.int .i64 q.p.tk, .int .i64 q.p.fr, .int .i64 q.p.to, .int .i64 q.p.gp, .int .i64 q.p.fi, .int .i64 q.p.fo, .int .i64 q.p.lv, .int .i64 q.ix, .int .i64 q.st]] w
      fun e w' => e = .returned (.int .i64 q.end_) ∧ Below w.heap.size w w' := by
  obtain ⟨h0, h6, h7⟩ := h
  have HH := Lib.hid h0
  obtain ⟨h1, h2, h3, h4, h5⟩ := h0
  have hb : -4096 ≤ q.len ∧ q.len ≤ 4096 := by unfold Pl.len; omega
  obtain ⟨b1, b2⟩ := hb
  go_enter Try.func97, Try.ntmps97
  go_wp2
  go_region_with ((with_reducible refine (plen_any q _ HH.out).mono ?_); rintro e w1 ⟨rfl, hb1⟩; have hblk := ((Blk.new w 117 #[.int .i64 q.p.tk, .int .i64 q.p.fr, .int .i64 q.p.to, .int .i64 q.p.gp, .int .i64 q.p.fi, .int .i64 q.p.fo, .int .i64 q.p.lv, .int .i64 q.ix, .int .i64 q.st]).drew.below hb1 (by simp)); have hc8 := (hblk.cell 8).trans rfl; clear hblk)
  all_goals go_wp2
  all_goals go_ret
  all_goals exact ⟨ret_i ((IntWalk.i64_in (q.st + q.len) (by omega)).trans rfl), ((Below.refl _ _).alloc (Nat.le_refl _) _).drew.trans (hb1.mono (by simp))⟩

def plc (q : Pl) : List Value := [.int .i64 q.p.tk, .int .i64 q.p.fr, .int .i64 q.p.to, .int .i64 q.p.gp, .int .i64 q.p.fi, .int .i64 q.p.fo, .int .i64 q.p.lv, .int .i64 q.ix, .int .i64 q.st]
def plCells (l : List Pl) : List Value := l.flatMap plc
theorem plCells_length (l : List Pl) : (plCells l).length = l.length * 9 := by
  induction l with
  | nil => rfl
  | cons x xs ih => simp [plCells, plc] at ih ⊢; omega
theorem plCells_at (l : List Pl) : ∀ (k : Nat) (h : k < l.length) (j : Nat), j < 9 → (plCells l)[k * 9 + j]? = (plc l[k])[j]? := by
  induction l with
  | nil => intro k h; simp at h
  | cons x xs ih =>
    intro k h j hj
    show ((plc x) ++ plCells xs)[k * 9 + j]? = _
    cases k with
    | zero => rw [List.getElem?_append_left (by simp [plc]; omega)]; simp
    | succ k =>
      rw [List.getElem?_append_right (by simp [plc]; omega)]
      rw [show (k + 1) * 9 + j - (plc x).length = k * 9 + j from by simp [plc]; omega]
      exact ih k (by simpa using h) j hj
theorem plCells_snoc (R : List Pl) (q : Pl) : plCells (R ++ [q]) = plCells R ++ plc q := by simp [plCells]

/-- '.slice A n c' reads as the placed parts l. -/
def RQ (w : World) (B : Nat) (A : Option Addr) (n : Nat) (l : List Pl) : Prop := n = l.length ∧ Reads w B 9 A n (plCells l)
theorem RQ.below {w w' : World} {B B' : Nat} {A : Option Addr} {n : Nat} {l : List Pl} (h : RQ w B A n l) (hb : Below B' w w') (hB : B ≤ B') : RQ w' B A n l := ⟨h.1, h.2.below hb hB⟩
theorem RQ.more {w : World} {B B' : Nat} {A : Option Addr} {n : Nat} {l : List Pl} (h : RQ w B A n l) (hB : B ≤ B') : RQ w B' A n l := ⟨h.1, h.2.more hB⟩
theorem RQ.at_ {w : World} {B : Nat} {A : Option Addr} {n : Nat} {l : List Pl} (h : RQ w B A n l) {k : Nat} (hk : k < l.length) :
    ∃ ad, A = some ad ∧ ad.block < B ∧ w.cell? (ad.add (k * 9)) = some (.int .i64 l[k].p.tk) ∧ w.cell? ⟨(ad.add (k * 9)).block, (ad.add (k * 9)).off + 1, none⟩ = some (.int .i64 l[k].p.fr) ∧
      w.cell? ⟨(ad.add (k * 9)).block, (ad.add (k * 9)).off + 2, none⟩ = some (.int .i64 l[k].p.to) ∧ w.cell? ⟨(ad.add (k * 9)).block, (ad.add (k * 9)).off + 3, none⟩ = some (.int .i64 l[k].p.gp) ∧
      w.cell? ⟨(ad.add (k * 9)).block, (ad.add (k * 9)).off + 4, none⟩ = some (.int .i64 l[k].p.fi) ∧ w.cell? ⟨(ad.add (k * 9)).block, (ad.add (k * 9)).off + 5, none⟩ = some (.int .i64 l[k].p.fo) ∧
      w.cell? ⟨(ad.add (k * 9)).block, (ad.add (k * 9)).off + 6, none⟩ = some (.int .i64 l[k].p.lv) ∧ w.cell? ⟨(ad.add (k * 9)).block, (ad.add (k * 9)).off + 7, none⟩ = some (.int .i64 l[k].ix) ∧
      w.cell? ⟨(ad.add (k * 9)).block, (ad.add (k * 9)).off + 8, none⟩ = some (.int .i64 l[k].st) := by
  obtain ⟨rfl, hr⟩ := h
  obtain ⟨ad, e, hb, hc⟩ := hr.2 (by omega)
  have g : ∀ j, j < 9 → ∀ u, (plc l[k])[j]? = some u → w.cell? ((ad.add (k * 9)).add j) = some u := by
    intro j hj u hu
    rw [add_of_add]
    exact hc _ _ ((plCells_at l k hk j hj).trans hu)
  exact ⟨ad, e, hb, g 0 (by omega) _ rfl, g 1 (by omega) _ rfl, g 2 (by omega) _ rfl, g 3 (by omega) _ rfl, g 4 (by omega) _ rfl, g 5 (by omega) _ rfl, g 6 (by omega) _ rfl, g 7 (by omega) _ rfl, g 8 (by omega) _ rfl⟩

/-- The parts with their places. -/
def placeL : List Prt → Nat → Int → List Pl
  | [], _, _ => []
  | x :: xs, i, e => ⟨x, i, e + x.gp⟩ :: placeL xs (i + 1) (e + x.gp + (x.to - x.fr))
theorem placeL_length (l : List Prt) : ∀ i e, (placeL l i e).length = l.length := by
  induction l with
  | nil => intro i e; rfl
  | cons x xs ih => intro i e; simp [placeL, ih]

/-- A slice of placed parts that the call has made. -/
def PlPost (w : World) (R : List Pl) (e : Ending) (w' : World) : Prop :=
  ∃ A c, e = .returned (.slice A R.length c) ∧ RQ w' w'.heap.size A R.length R ∧ Below w.heap.size w w'
theorem info_placed : (Try.prog.info? 117).map (fun i => (i.zero, i.size, i.bytes)) = some (some (.agg #[.int .i64 0, .int .i64 0, .int .i64 0, .int .i64 0, .int .i64 0, .int .i64 0, .int .i64 0, .int .i64 0, .int .i64 0]), 9, 72) := by kernel_rfl
end Go.Proofs.Ytjaomjbhkgijbaa

