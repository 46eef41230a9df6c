/-
  Steps that run, as a list: what each is in memory, and what a call of one of them changes.
-/
import Derived.Test.YtilihdkfflfniaaU3
import Derived.Test.YtilihdkfflfniaaU4
import Derived.Test.YtilihdkfflfniaaUP
import Derived.Test.YtilihdkfflfniaaW3
import Derived.Shelf.Abstract
import Derived.RangeFuncBound
namespace Go.Proofs.Ytilihdkfflfniaa
open Go.RowKit

/-- A step as it lies in memory: the blocks of its direction and its state, its lists, its curve. -/
structure SR where
  d : Nat
  g : Nat
  Af : Option Addr
  Ab : Option Addr
  nf : Nat
  kf : Nat
  nb : Nat
  kb : Nat
  c : Cur
def stepFn (dir : Bool) : Nat := if dir then 78 else 82
def dirTy (dir : Bool) : TypeId := if dir then 68 else 73
def SR.val (dir : Bool) (s : SR) : Value := .func (.func (stepFn dir)) #[] #[.pointer (some ⟨s.d, 0, none⟩), .pointer (some ⟨s.g, 0, none⟩)]
/-- A step that runs: its state, and the moments that it remembers. -/
structure Live (w : World) (B : Nat) (dir : Bool) (s : SR) (h : List (Int × Int)) : Prop where
  st : St w s.g h (h.length % 8) (.slice s.Af s.nf s.kf) (.slice s.Ab s.nb s.kb) s.c.share
  dr : Blk w s.d (dirTy dir) #[]
  fd : LI w B s.Af s.nf s.c.feed
  bk : LI w B s.Ab s.nb s.c.back
  gB : B ≤ s.g
  dB : B ≤ s.d
  ok : CurOk s.c
  sm : Small h
theorem blk_ne {w : World} {g g' : Nat} {t t' : TypeId} {cs cs' : Array Value} (h : Blk w g t cs) (h' : Blk w g' t' cs') (ht : t ≠ t') : g ≠ g' := by
  rintro rfl
  unfold Blk at h h'
  rw [h] at h'
  injection h' with h'
  injection h' with _ h'
  exact ht h'
theorem grown_below {w w' : World} {B : Nat} {row : Option Nat} (h : w.grownBy w' row) (hB : B ≤ w.heap.size) (hr : ∀ k, row = some k → B ≤ k) : Below B w w' :=
  ⟨h.os, h.tape, h.output, h.size, fun k hk => h.block k (Nat.lt_of_lt_of_le hk hB) (fun e => by have := hr k e.symm; omega)⟩
section
variable {w w' : World} {B : Nat} {dir : Bool} {s : SR} {h : List (Int × Int)}
theorem Live.BS (H : Live w B dir s h) : B ≤ w.heap.size := Nat.le_of_lt (Nat.lt_of_le_of_lt H.gB H.st.lt)
theorem Live.grown (H : Live w B dir s h) {row : Option Nat} (hg : w.grownBy w' row) (h1 : some s.g ≠ row) (h2 : some s.d ≠ row) (h3 : ∀ k, row = some k → B ≤ k) : Live w' B dir s h :=
  have hb := grown_below hg H.BS h3
  ⟨H.st.grown hg h1, H.dr.grown hg h2, H.fd.below hb (Nat.le_refl _), H.bk.below hb (Nat.le_refl _), H.gB, H.dB, H.ok, H.sm⟩
theorem Live.below (H : Live w B dir s h) {B' : Nat} (hb : Below B' w w') (h1 : s.g < B') (h2 : s.d < B') : Live w' B dir s h :=
  have hB : B ≤ B' := Nat.le_of_lt (Nat.lt_of_le_of_lt H.gB h1)
  ⟨H.st.below hb h1, H.dr.below hb h2, H.fd.below hb hB, H.bk.below hb hB, H.gB, H.dB, H.ok, H.sm⟩
end
/-- What a call of a step leaves: what it answers, its state with one more moment, and all else as it was. -/
def StepPost (w : World) (dir : Bool) (s : SR) (h : List (Int × Int)) (v : Int) (e : Ending) (w' : World) : Prop :=
  e = .returned (.int .i64 (outM dir (mom dir s.c h v))) ∧ St w' s.g (mom dir s.c h v :: h) ((h.length + 1) % 8) (.slice s.Af s.nf s.kf) (.slice s.Ab s.nb s.kb) s.c.share ∧ w.grownBy w' (some s.g)
theorem dir_ne (dir : Bool) : dirTy dir ≠ 99 := by cases dir <;> decide
theorem step_any (dir : Bool) (B : Nat) (s : SR) (h : List (Int × Int)) (v : Int) (w : World) (H : Live w B dir s h) (hv : -1099511627776 ≤ v ∧ v ≤ 1099511627776) :
    Calls Try.prog (stepFn dir) #[.int .i64 v, .pointer (some ⟨s.d, 0, none⟩), .pointer (some ⟨s.g, 0, none⟩)] w (StepPost w dir s h v) := by
  have e : (h.length % 8 + 1) % 8 = (h.length + 1) % 8 := by omega
  cases dir
  · refine (step_back_any B s.g s.d (h.length % 8) s.c h s.Af s.Ab s.nf s.kf s.nb s.kb v w H.st H.dr (by omega) H.fd H.bk H.BS H.ok H.sm hv).mono ?_
    rintro e' w' ⟨h1, h2, h3⟩
    rw [e] at h2
    exact ⟨h1, h2, h3⟩
  · refine (step_forth_any B s.g s.d (h.length % 8) s.c h s.Af s.Ab s.nf s.kf s.nb s.kb v w H.st H.dr (by omega) H.fd H.bk H.BS H.ok H.sm hv).mono ?_
    rintro e' w' ⟨h1, h2, h3⟩
    rw [e] at h2
    exact ⟨h1, h2, h3⟩
theorem step_enters (dir : Bool) (args : Array Value) (w : World) : (callFunc (stepFn dir) args).run Try.prog w = .ok (.enter (stepFn dir) args) w := by
  cases dir
  · exact enters_of Try.func82 (by kernel_rfl) rfl args w
  · exact enters_of Try.func78 (by kernel_rfl) rfl args w
/-- All steps run, each with a state of its own. -/
structure Lives (w : World) (B : Nat) (dir : Bool) (l : List SR) (hs : List (List (Int × Int))) : Prop where
  len : hs.length = l.length
  inj : ∀ i j (hi : i < l.length) (hj : j < l.length), l[i].g = l[j].g → i = j
  all : ∀ i (hi : i < l.length) (hh : i < hs.length), Live w B dir l[i] hs[i]
section
variable {w w' : World} {B : Nat} {dir : Bool} {l : List SR} {hs : List (List (Int × Int))}
theorem Lives.nil_ : Lives w B dir [] [] := ⟨rfl, fun i j hi => absurd hi (by simp), fun i hi => absurd hi (by simp)⟩
theorem Lives.at_ (H : Lives w B dir l hs) {i : Nat} (hi : i < l.length) : Live w B dir l[i] (hs[i]'(by rw [H.len]; exact hi)) := H.all i hi (by rw [H.len]; exact hi)
/-- Growth by a row of another type of cells. -/
theorem Lives.grown (H : Lives w B dir l hs) {v : Value} {base n size : Nat} {e : TypeId} {xs : List Value} (ho : w.ownsRow base e size v n xs) (hB : B ≤ base) (he1 : e ≠ 99) (he2 : e ≠ dirTy dir) (hg : w.grownBy w' v.ownBlock) : Lives w' B dir l hs := by
  have key : ∀ (g : Nat) (t : TypeId) (cs : Array Value), Blk w g t cs → e ≠ t → some g ≠ v.ownBlock := by
    intro g t cs hb ht hv
    rcases ho.2 with ⟨rfl, _⟩ | ⟨g', cap, cur, rfl, _, hg', _⟩
    · simp [Value.ownBlock] at hv
    · simp [Value.ownBlock] at hv
      subst hv
      exact blk_ne (w := w) (cs := cur) hg' hb ht rfl
  refine ⟨H.len, H.inj, fun i hi hh => (H.all i hi hh).grown hg (key _ _ _ (H.all i hi hh).st he1) (key _ _ _ (H.all i hi hh).dr he2) fun k hk => ?_⟩
  rcases ho.2 with ⟨rfl, _⟩ | ⟨g', cap, cur, rfl, hb, _⟩
  · simp [Value.ownBlock] at hk
  · simp [Value.ownBlock] at hk
    omega
theorem Lives.below (H : Lives w B dir l hs) (hb : Below w.heap.size w w') : Lives w' B dir l hs :=
  ⟨H.len, H.inj, fun i hi hh => (H.all i hi hh).below hb (H.all i hi hh).st.lt (H.all i hi hh).dr.lt⟩
/-- One step goes on. -/
theorem Lives.step (H : Lives w B dir l hs) {i : Nat} (hi : i < l.length) {h' : List (Int × Int)} (hg : w.grownBy w' (some l[i].g)) (hs' : St w' l[i].g h' (h'.length % 8) (.slice l[i].Af l[i].nf l[i].kf) (.slice l[i].Ab l[i].nb l[i].kb) l[i].c.share) (hm : Small h') : Lives w' B dir l (hs.set i h') := by
  have hgB : ∀ k, some l[i].g = some k → B ≤ k := fun k hk => by injection hk with hk; have := (H.at_ hi).gB; omega
  refine ⟨by rw [List.length_set]; exact H.len, H.inj, fun j hj hh => ?_⟩
  have Hj := H.at_ hj
  by_cases e : i = j
  · subst e
    rw [List.getElem_set_self]
    have hb := grown_below hg Hj.BS hgB
    exact ⟨hs', Hj.dr.grown hg (fun e => by injection e with e; exact blk_ne Hj.dr Hj.st (dir_ne dir) e), Hj.fd.below hb (Nat.le_refl _), Hj.bk.below hb (Nat.le_refl _), Hj.gB, Hj.dB, Hj.ok, hm⟩
  · rw [List.getElem_set_ne e]
    refine Hj.grown hg (fun e' => by injection e' with e'; exact e (H.inj i j hi hj e'.symm)) (fun e' => by injection e' with e'; exact blk_ne Hj.dr (H.at_ hi).st (dir_ne dir) e') hgB
end
/-- A row of the call's own is not touched by a step. -/
theorem own_step {w w' : World} {base n size g : Nat} {e : TypeId} {v : Value} {xs : List Value} {cs : Array Value} (ho : w.ownsRow base e size v n xs) (hb : Blk w g 99 cs) (he : e ≠ 99) (hg : w.grownBy w' (some g)) : w'.ownsRow base e size v n xs := by
  refine ⟨ho.1, ho.2.imp id ?_⟩
  rintro ⟨g', cap, cur, hv, hbg, hg', rest⟩
  refine ⟨g', cap, cur, hv, hbg, ?_, rest⟩
  have hlt : g' < w.heap.size := Blk.lt (w := w) (cs := cur) hg'
  exact (hg.block g' hlt (fun e' => by injection e' with e'; exact blk_ne (w := w) (cs := cur) hg' hb he e')).trans hg'
/-- Two rows of different cells: to append to one leaves the other. -/
theorem own_other {w w' : World} {base base' n n' size size' : Nat} {e e' : TypeId} {v v' : Value} {xs xs' : List Value} (ho : w.ownsRow base e size v n xs) (ho' : w.ownsRow base' e' size' v' n' xs') (he : e ≠ e') (hg : w.grownBy w' v'.ownBlock) : w'.ownsRow base e size v n xs := by
  refine ⟨ho.1, ho.2.imp id ?_⟩
  rintro ⟨g, cap, cur, hv, hbg, hg', rest⟩
  refine ⟨g, cap, cur, hv, hbg, ?_, rest⟩
  have hlt : g < w.heap.size := Blk.lt (w := w) (cs := cur) hg'
  refine (hg.block g hlt (fun e1 => ?_)).trans hg'
  rcases ho'.2 with ⟨rfl, _⟩ | ⟨g2, cap2, cur2, rfl, _, hg2, _⟩
  · simp [Value.ownBlock] at e1
  · simp [Value.ownBlock] at e1
    subst e1
    exact blk_ne (w := w) (cs := cur) (cs' := cur2) hg' hg2 he rfl
theorem mom_small {dir : Bool} {c : Cur} {h : List (Int × Int)} {v most : Int} (hh : Small h) (hv : wib v most = true) (hw : wib (outM dir (mom dir c h v)) most = true) (hm : most ≤ 1099511627776) : Small (mom dir c h v :: h) := by
  intro m hm'
  rcases List.mem_cons.1 hm' with rfl | hm'
  · cases dir <;> simp [mom, outM, wib] at hw hv ⊢ <;> omega
  · exact hh m hm'
end Go.Proofs.Ytilihdkfflfniaa
