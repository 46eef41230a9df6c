/-
  Placed parts in memory; contracts of length and end of a placed part, place, length.
-/
import Derived.Test.YtbcahkklhdnboaaB3
import Derived.Maps.AppendAt
namespace Go.Proofs.Ytbcahkklhdnboaa
open Go.RowKit

structure Pl where
  p : Prt
  ix : Int
  st : Int
def Pl.len (q : Pl) : Int := q.p.to - q.p.fr
def Pl.end_ (q : Pl) : Int := q.st + (q.p.to - q.p.fr)
/-- The bounds of a part that is valid. -/
def PrOk (p : Prt) : Prop := 0 ≤ p.fr ∧ p.fr < p.to ∧ p.to ≤ 4096 ∧ -4096 ≤ p.gp ∧ p.gp ≤ 4096
def PlOk (q : Pl) : Prop := PrOk q.p ∧ -1000000 ≤ q.st ∧ q.st ≤ 1000000

set_option maxHeartbeats 1000000 in
theorem plen_any (q : Pl) (w : World) (h : PrOk q.p) :
    Calls Try.prog 49 #[.agg #[.int .i64 q.p.tk, .int .i64 q.p.fr, .int .i64 q.p.to, .int .i64 q.p.gp, .int .i64 q.p.fi, .int .i64 q.p.fo, .int .i64 q.p.lv, .int .i64 q.ix, .int .i64 q.st]] w
      fun e w' => e = .returned (.int .i64 q.len) ∧ Below w.heap.size w w' := by
  obtain ⟨h1, h2, h3, h4, h5⟩ := h
  go_enter Try.func49, Try.ntmps49
  go_wp2
  go_ret
  exact ⟨ret_i rfl, (Below.refl _ _).alloc (Nat.le_refl _) _⟩

set_option maxHeartbeats 1000000 in
theorem pend_any (q : Pl) (w : World) (h : PlOk q) :
    Calls Try.prog 62 #[.agg #[.int .i64 q.p.tk, .int .i64 q.p.fr, .int .i64 q.p.to, .int .i64 q.p.gp, .int .i64 q.p.fi, .int .i64 q.p.fo, .int .i64 q.p.lv, .int .i64 q.ix, .int .i64 q.st]] w
      fun e w' => e = .returned (.int .i64 q.end_) ∧ Below w.heap.size w w' := by
  obtain ⟨h0, h6, h7⟩ := h
  have HH := Lib.hid h0
  obtain ⟨h1, h2, h3, h4, h5⟩ := h0
  have hb : -4096 ≤ q.len ∧ q.len ≤ 4096 := by unfold Pl.len; omega
  obtain ⟨b1, b2⟩ := hb
  go_enter Try.func62, Try.ntmps62
  go_wp2
  go_region_with ((with_reducible refine (plen_any q _ HH.out).mono ?_); rintro e w1 ⟨rfl, hb1⟩; have hblk := ((Blk.new w 71 #[.int .i64 q.p.tk, .int .i64 q.p.fr, .int .i64 q.p.to, .int .i64 q.p.gp, .int .i64 q.p.fi, .int .i64 q.p.fo, .int .i64 q.p.lv, .int .i64 q.ix, .int .i64 q.st]).drew.below hb1 (by simp)); have hc8 := (hblk.cell 8).trans rfl; clear hblk)
  all_goals go_wp2
  all_goals go_ret
  all_goals exact ⟨ret_i ((IntWalk.i64_in (q.st + q.len) (by omega)).trans rfl), ((Below.refl _ _).alloc (Nat.le_refl _) _).drew.trans (hb1.mono (by simp))⟩

def plc (q : Pl) : List Value := [.int .i64 q.p.tk, .int .i64 q.p.fr, .int .i64 q.p.to, .int .i64 q.p.gp, .int .i64 q.p.fi, .int .i64 q.p.fo, .int .i64 q.p.lv, .int .i64 q.ix, .int .i64 q.st]
def plCells (l : List Pl) : List Value := l.flatMap plc
theorem plCells_length (l : List Pl) : (plCells l).length = l.length * 9 := by
  induction l with
  | nil => rfl
  | cons x xs ih => simp [plCells, plc] at ih ⊢; omega
theorem plCells_at (l : List Pl) : ∀ (k : Nat) (h : k < l.length) (j : Nat), j < 9 → (plCells l)[k * 9 + j]? = (plc l[k])[j]? := by
  induction l with
  | nil => intro k h; simp at h
  | cons x xs ih =>
    intro k h j hj
    show ((plc x) ++ plCells xs)[k * 9 + j]? = _
    cases k with
    | zero => rw [List.getElem?_append_left (by simp [plc]; omega)]; simp
    | succ k =>
      rw [List.getElem?_append_right (by simp [plc]; omega)]
      rw [show (k + 1) * 9 + j - (plc x).length = k * 9 + j from by simp [plc]; omega]
      exact ih k (by simpa using h) j hj
theorem plCells_snoc (R : List Pl) (q : Pl) : plCells (R ++ [q]) = plCells R ++ plc q := by simp [plCells]

/-- '.slice A n c' reads as the placed parts l. -/
def RQ (w : World) (B : Nat) (A : Option Addr) (n : Nat) (l : List Pl) : Prop := n = l.length ∧ Reads w B 9 A n (plCells l)
theorem RQ.below {w w' : World} {B B' : Nat} {A : Option Addr} {n : Nat} {l : List Pl} (h : RQ w B A n l) (hb : Below B' w w') (hB : B ≤ B') : RQ w' B A n l := ⟨h.1, h.2.below hb hB⟩
theorem RQ.more {w : World} {B B' : Nat} {A : Option Addr} {n : Nat} {l : List Pl} (h : RQ w B A n l) (hB : B ≤ B') : RQ w B' A n l := ⟨h.1, h.2.more hB⟩
theorem RQ.at_ {w : World} {B : Nat} {A : Option Addr} {n : Nat} {l : List Pl} (h : RQ w B A n l) {k : Nat} (hk : k < l.length) :
    ∃ ad, A = some ad ∧ ad.block < B ∧ w.cell? (ad.add (k * 9)) = some (.int .i64 l[k].p.tk) ∧ w.cell? ⟨(ad.add (k * 9)).block, (ad.add (k * 9)).off + 1, none⟩ = some (.int .i64 l[k].p.fr) ∧
      w.cell? ⟨(ad.add (k * 9)).block, (ad.add (k * 9)).off + 2, none⟩ = some (.int .i64 l[k].p.to) ∧ w.cell? ⟨(ad.add (k * 9)).block, (ad.add (k * 9)).off + 3, none⟩ = some (.int .i64 l[k].p.gp) ∧
      w.cell? ⟨(ad.add (k * 9)).block, (ad.add (k * 9)).off + 4, none⟩ = some (.int .i64 l[k].p.fi) ∧ w.cell? ⟨(ad.add (k * 9)).block, (ad.add (k * 9)).off + 5, none⟩ = some (.int .i64 l[k].p.fo) ∧
      w.cell? ⟨(ad.add (k * 9)).block, (ad.add (k * 9)).off + 6, none⟩ = some (.int .i64 l[k].p.lv) ∧ w.cell? ⟨(ad.add (k * 9)).block, (ad.add (k * 9)).off + 7, none⟩ = some (.int .i64 l[k].ix) ∧
      w.cell? ⟨(ad.add (k * 9)).block, (ad.add (k * 9)).off + 8, none⟩ = some (.int .i64 l[k].st) := by
  obtain ⟨rfl, hr⟩ := h
  obtain ⟨ad, e, hb, hc⟩ := hr.2 (by omega)
  have g : ∀ j, j < 9 → ∀ u, (plc l[k])[j]? = some u → w.cell? ((ad.add (k * 9)).add j) = some u := by
    intro j hj u hu
    rw [add_of_add]
    exact hc _ _ ((plCells_at l k hk j hj).trans hu)
  exact ⟨ad, e, hb, g 0 (by omega) _ rfl, g 1 (by omega) _ rfl, g 2 (by omega) _ rfl, g 3 (by omega) _ rfl, g 4 (by omega) _ rfl, g 5 (by omega) _ rfl, g 6 (by omega) _ rfl, g 7 (by omega) _ rfl, g 8 (by omega) _ rfl⟩

/-- The parts with their places. -/
def placeL : List Prt → Nat → Int → List Pl
  | [], _, _ => []
  | x :: xs, i, e => ⟨x, i, e + x.gp⟩ :: placeL xs (i + 1) (e + x.gp + (x.to - x.fr))
theorem placeL_length (l : List Prt) : ∀ i e, (placeL l i e).length = l.length := by
  induction l with
  | nil => intro i e; rfl
  | cons x xs ih => intro i e; simp [placeL, ih]

/-- A slice of placed parts that the call has made. -/
def PlPost (w : World) (R : List Pl) (e : Ending) (w' : World) : Prop :=
  ∃ A c, e = .returned (.slice A R.length c) ∧ RQ w' w'.heap.size A R.length R ∧ Below w.heap.size w w'
theorem own_reads {w : World} {base : Nat} {e : TypeId} {size : Nat} {v : Value} {n : Nat} {xs : List Value} (h : w.ownsRow base e size v n xs) :
    ∃ A c, v = .slice A n c ∧ Reads w w.heap.size size A n xs := by
  rcases h.2 with ⟨rfl, rfl⟩ | ⟨g, cap, cur, rfl, _⟩
  · exact ⟨none, 0, rfl, h.1, fun hn => absurd hn (by omega)⟩
  · refine ⟨some ⟨g, 0, none⟩, cap, rfl, h.1, fun hn => ⟨⟨g, 0, none⟩, rfl, ?_, h.cells (g := g) rfl⟩⟩
    exact (h.lt g rfl).2

theorem info_placed : (Try.prog.info? 71).map (fun i => (i.zero, i.size, i.bytes)) = some (some (.agg #[.int .i64 0, .int .i64 0, .int .i64 0, .int .i64 0, .int .i64 0, .int .i64 0, .int .i64 0, .int .i64 0, .int .i64 0]), 9, 72) := by kernel_rfl
theorem nine_new (w : World) (cs : List Value) (t : TypeId) : ∀ j u, cs[j]? = some u → (w.alloc (.cells cs.toArray t)).cell? ((⟨w.heap.size, 0, none⟩ : Addr).add j) = some u := by
  intro j u hj
  have hb := Blk.new w t cs.toArray
  have e : (⟨w.heap.size, 0, none⟩ : Addr).add j = ⟨w.heap.size, j, none⟩ := by
    unfold Addr.add; split
    · rename_i h; subst h; rfl
    · simp
  rw [e, hb.cell j]; simpa using hj
theorem run_make_rowN {P : Program} (t e : TypeId) (i : TypeInfo) (z : Value) (ht : P.underlying t = some (.slice e)) (hi : P.info? e = some i) (hz : i.zero = some z)
    (kl kc : IntKind) (n c : Nat) (hnc : n ≤ c) (hbytes : i.bytes * c ≤ 281474976710656) (h63 : c ≤ 9223372036854775807) (w : World) :
    (Instr.makeSlice t (.int kl (n : Int)) (.int kc (c : Int))).run P w = .ok (.slice (some ⟨w.heap.size, 0, none⟩) n c) (w.alloc (.cells (madeCells z.cells (c * i.size)) e)) := by
  have hb : (i.bytes : Int) * (c : Int) ≤ 281474976710656 := by
    have h : ((i.bytes * c : Nat) : Int) ≤ 281474976710656 := by omega
    rwa [Int.natCast_mul] at h
  have hr := run_make (P := P) w t e i z ht hi hz kl kc n c (by omega) (by omega) hb (by omega)
  simp only [Int.toNat_natCast] at hr
  exact hr
end Go.Proofs.Ytbcahkklhdnboaa
