/-
  A curve begins: the step that 'running' returns.
-/
import Derived.Test.YtjaomjbhkgijbaaMg21
import Derived.Deep.MidRow
import Derived.Test.YtjaomjbhkgijbaaMg20
import Derived.Test.YtjaomjbhkgijbaaMg22
import Derived.Test.YtjaomjbhkgijbaaMg3
import Derived.Shelf.Abstract
import Derived.RangeFuncBound

namespace Go.Proofs.Ytjaomjbhkgijbaa
open Go.RowKit

/-- What 'running' returns: a closure over the direction and the state, both new. -/
def RunPost (w : World) (fn ty : Nat) (F B : Value) (sh : Int) (e : Ending) (w' : World) : Prop :=
  ∃ d g, e = .returned (.func (.func fn) #[] #[.pointer (some ⟨d, 0, none⟩), .pointer (some ⟨g, 0, none⟩)]) ∧ w.heap.size ≤ d ∧ w.heap.size ≤ g ∧ d ≠ g ∧ Below w.heap.size w w' ∧ Blk w' d ty #[] ∧ St w' g [] 0 F B sh
theorem stC_lit (F B : Value) (sh : Int) : stC [] 0 F B sh = #[.int .i64 0, .int .i64 0, .int .i64 0, .int .i64 0, .int .i64 0, .int .i64 0, .int .i64 0, .int .i64 0, .int .i64 0, .int .i64 0, .int .i64 0, .int .i64 0, .int .i64 0, .int .i64 0, .int .i64 0, .int .i64 0, .int .i64 0, F, B, .int .i64 sh] := rfl
def sets (cs : Array Value) : Nat → List Value → Array Value
  | _, [] => cs
  | o, v :: r => sets (cs.setIfInBounds o v) (o + 1) r
theorem Blk.sets {g : Nat} {t : TypeId} : ∀ (vs : List Value) (o : Nat) {w : World} {cs : Array Value}, Blk w g t cs → Blk (w.setCells g o vs) g t (sets cs o vs)
  | [], _, _, _, h => h
  | v :: r, o, _, _, h => Blk.sets r (o + 1) (h.set_ o v)
theorem Blk.sets_far {g b : Nat} {t : TypeId} {cs : Array Value} : ∀ (vs : List Value) (o : Nat) {w : World}, g ≠ b → Blk w g t cs → Blk (w.setCells b o vs) g t cs
  | [], _, _, _, h => h
  | v :: r, o, _, hne, h => Blk.sets_far r (o + 1) hne (h.far (p := ⟨b, o, none⟩) hne v)
theorem sets_below {B b : Nat} {a : World} (hb : B ≤ b) : ∀ (vs : List Value) (o : Nat) {w : World}, Below B a w → Below B a (w.setCells b o vs)
  | [], _, _, h => h
  | v :: r, o, _, h => sets_below hb r (o + 1) (h.setCell hb v)
theorem sets_all : ∀ (vs : List Value) (cs : List Value) (o : Nat), o + vs.length = cs.length → sets cs.toArray o vs = (cs.take o ++ vs).toArray
  | [], cs, o, h => by simp [sets, show o = cs.length by simpa using h]
  | v :: r, cs, o, h => by
    have ho : o < cs.length := by simp at h; omega
    show sets (cs.toArray.setIfInBounds o v) (o + 1) r = _
    rw [List.setIfInBounds_toArray, sets_all r (cs.set o v) (o + 1) (by simp at h ⊢; omega), List.take_succ_eq_append_getElem (by simpa using ho), List.take_set, List.set_eq_of_length_le (by simp; omega)]
    simp
theorem sets_stC (F B F' B' : Value) (sh sh' : Int) : sets (stC [] 0 F B sh) 0 (stC [] 0 F' B' sh').toList = stC [] 0 F' B' sh' := by
  rw [show stC [] 0 F B sh = (stC [] 0 F B sh).toList.toArray from rfl, sets_all _ _ 0 (by rw [stC_lit, stC_lit]; rfl)]
  rfl

set_option maxRecDepth 100000 in
set_option maxHeartbeats 1000000 in
theorem run_forth_any (Af Ab : Option Addr) (nf kf nb kb : Nat) (sh : Int) (w : World) :
    Calls Try.prog 118 #[.agg #[.slice Af nf kf, .slice Ab nb kb, .int .i64 sh]] w (RunPost w 166 143 (.slice Af nf kf) (.slice Ab nb kb) sh) := by
  have hmf : ∀ (fn : Fn) (first cap : Array Value) (w : World), (Instr.makeFunc fn first cap).run Try.prog w = .ok (.func fn first cap) w := fun _ _ _ _ => rfl
  go_enter Try.func118, Try.ntmps118
  go_upto_region 2 with fail
  refine wp_region_list ?_
  refine wpList_plain rfl (fun K hK => ?_)
  go_simp
  refine hK _ _ ?_
  refine wpList_plain rfl (fun K hK => ?_)
  go_simp
  refine hK _ _ ?_
  refine wpList_plain rfl (fun K hK => ?_)
  go_simp
  refine hK _ _ ?_
  refine wpList_store_mid rfl 201 _ _ rfl _ _ _ rfl rfl ?ht (by kernel_rfl) (by first | kernel_rfl | simp [Value.oneCell']) ?_
  case ht =>
    intro k hk
    have hb := Blk.new ((w.alloc (.cells #[.slice Af nf kf, .slice Ab nb kb, .int .i64 sh] 43)).alloc (.cells #[] 143)) 201 (stC [] 0 (.slice none 0 0) (.slice none 0 0) 0)
    have hk' : k < 20 := hk
    have e := hb.cell k
    have f := hb.frozen k
    simp only [World.size_alloc] at e f
    refine ⟨?_, ?_⟩
    · rw [Nat.zero_add]
      refine (congrArg Option.isSome e).trans ?_
      rw [Array.getElem?_eq_getElem (show k < (stC [] 0 (.slice none 0 0) (.slice none 0 0) 0).size from hk')]; rfl
    · rw [Nat.zero_add]; exact f
  obtain ⟨V, hV⟩ : ∃ V, (((w.alloc (.cells #[.slice Af nf kf, .slice Ab nb kb, .int .i64 sh] 43)).alloc (.cells #[] 143)).alloc (.cells (stC [] 0 (.slice none 0 0) (.slice none 0 0) 0) 201)).setCells (w.heap.size + 1 + 1) 0 (stC [] 0 (.slice Af nf kf) (.slice Ab nb kb) sh).toList = V := ⟨_, rfl⟩
  have hs : Hid (St V (w.heap.size + 1 + 1) [] 0 (.slice Af nf kf) (.slice Ab nb kb) sh) := Lib.hid (by
    rw [← hV]
    refine (Blk.sets _ 0 (by have := Blk.new ((w.alloc (.cells #[.slice Af nf kf, .slice Ab nb kb, .int .i64 sh] 43)).alloc (.cells #[] 143)) 201 (stC [] 0 (.slice none 0 0) (.slice none 0 0) 0); simp only [World.size_alloc] at this; exact this)).cast (sets_stC _ _ _ _ _ _))
  have hd : Hid (Blk V (w.heap.size + 1) 143 #[]) := Lib.hid (by
    rw [← hV]
    refine Blk.sets_far _ 0 (by omega) ?_
    have := (Blk.new (w.alloc (.cells #[.slice Af nf kf, .slice Ab nb kb, .int .i64 sh] 43)) 143 #[]).alloc (.cells (stC [] 0 (.slice none 0 0) (.slice none 0 0) 0) 201)
    simp only [World.size_alloc] at this; exact this)
  have hb : Hid (Below w.heap.size w V) := Lib.hid (by
    rw [← hV]
    exact sets_below (by omega) _ 0 ((((Below.refl _ _).alloc (Nat.le_refl _) _).alloc (by simp) _).alloc (by simp; omega) _))
  simp only [stC_lit] at hV
  dsimp only
  rw [hV]
  clear hV
  go_wp2
  go_ret
  exact ⟨_, _, rfl, by omega, by omega, by omega, hb.out, hd.out, hs.out⟩

set_option maxRecDepth 100000 in
set_option maxHeartbeats 1000000 in
theorem run_back_any (Af Ab : Option Addr) (nf kf nb kb : Nat) (sh : Int) (w : World) :
    Calls Try.prog 121 #[.agg #[.slice Af nf kf, .slice Ab nb kb, .int .i64 sh]] w (RunPost w 171 145 (.slice Af nf kf) (.slice Ab nb kb) sh) := by
  have hmf : ∀ (fn : Fn) (first cap : Array Value) (w : World), (Instr.makeFunc fn first cap).run Try.prog w = .ok (.func fn first cap) w := fun _ _ _ _ => rfl
  go_enter Try.func121, Try.ntmps121
  go_upto_region 2 with fail
  refine wp_region_list ?_
  refine wpList_plain rfl (fun K hK => ?_)
  go_simp
  refine hK _ _ ?_
  refine wpList_plain rfl (fun K hK => ?_)
  go_simp
  refine hK _ _ ?_
  refine wpList_plain rfl (fun K hK => ?_)
  go_simp
  refine hK _ _ ?_
  refine wpList_store_mid rfl 201 _ _ rfl _ _ _ rfl rfl ?ht (by kernel_rfl) (by first | kernel_rfl | simp [Value.oneCell']) ?_
  case ht =>
    intro k hk
    have hb := Blk.new ((w.alloc (.cells #[.slice Af nf kf, .slice Ab nb kb, .int .i64 sh] 43)).alloc (.cells #[] 145)) 201 (stC [] 0 (.slice none 0 0) (.slice none 0 0) 0)
    have hk' : k < 20 := hk
    have e := hb.cell k
    have f := hb.frozen k
    simp only [World.size_alloc] at e f
    refine ⟨?_, ?_⟩
    · rw [Nat.zero_add]
      refine (congrArg Option.isSome e).trans ?_
      rw [Array.getElem?_eq_getElem (show k < (stC [] 0 (.slice none 0 0) (.slice none 0 0) 0).size from hk')]; rfl
    · rw [Nat.zero_add]; exact f
  obtain ⟨V, hV⟩ : ∃ V, (((w.alloc (.cells #[.slice Af nf kf, .slice Ab nb kb, .int .i64 sh] 43)).alloc (.cells #[] 145)).alloc (.cells (stC [] 0 (.slice none 0 0) (.slice none 0 0) 0) 201)).setCells (w.heap.size + 1 + 1) 0 (stC [] 0 (.slice Af nf kf) (.slice Ab nb kb) sh).toList = V := ⟨_, rfl⟩
  have hs : Hid (St V (w.heap.size + 1 + 1) [] 0 (.slice Af nf kf) (.slice Ab nb kb) sh) := Lib.hid (by
    rw [← hV]
    refine (Blk.sets _ 0 (by have := Blk.new ((w.alloc (.cells #[.slice Af nf kf, .slice Ab nb kb, .int .i64 sh] 43)).alloc (.cells #[] 145)) 201 (stC [] 0 (.slice none 0 0) (.slice none 0 0) 0); simp only [World.size_alloc] at this; exact this)).cast (sets_stC _ _ _ _ _ _))
  have hd : Hid (Blk V (w.heap.size + 1) 145 #[]) := Lib.hid (by
    rw [← hV]
    refine Blk.sets_far _ 0 (by omega) ?_
    have := (Blk.new (w.alloc (.cells #[.slice Af nf kf, .slice Ab nb kb, .int .i64 sh] 43)) 145 #[]).alloc (.cells (stC [] 0 (.slice none 0 0) (.slice none 0 0) 0) 201)
    simp only [World.size_alloc] at this; exact this)
  have hb : Hid (Below w.heap.size w V) := Lib.hid (by
    rw [← hV]
    exact sets_below (by omega) _ 0 ((((Below.refl _ _).alloc (Nat.le_refl _) _).alloc (by simp) _).alloc (by simp; omega) _))
  simp only [stC_lit] at hV
  dsimp only
  rw [hV]
  clear hV
  go_wp2
  go_ret
  exact ⟨_, _, rfl, by omega, by omega, by omega, hb.out, hd.out, hs.out⟩
end Go.Proofs.Ytjaomjbhkgijbaa

/-
  The mathematics of what is left of a pass through steps, and of a signal: by indexes, as the loops of 'through' count.
-/
namespace Go.Proofs.Ytjaomjbhkgijbaa

/-- What a pass gives, when the first j steps are done. -/
def psR (d : Bool) (most : Int) (cs : List Cur) (hs : List (List (Int × Int))) (j : Nat) (v : Int) : List (List (Int × Int)) × Option Int :=
  (hs.take j ++ (pass d most (cs.drop j) (hs.drop j) v).1, (pass d most (cs.drop j) (hs.drop j) v).2)
section
variable {d : Bool} {most : Int} {cs : List Cur} {hs : List (List (Int × Int))} {j : Nat} {v : Int}
theorem psR_zero : psR d most cs hs 0 v = pass d most cs hs v := by simp [psR]
theorem psR_go (hl : hs.length = cs.length) (hj : j < cs.length) (hw : wib (outM d (mom d cs[j] (hs[j]'(by omega)) v)) most = true) :
    psR d most cs (hs.set j (mom d cs[j] (hs[j]'(by omega)) v :: (hs[j]'(by omega)))) (j + 1) (outM d (mom d cs[j] (hs[j]'(by omega)) v)) = psR d most cs hs j v := by
  have hj' : j < hs.length := by omega
  unfold psR
  rw [List.drop_eq_getElem_cons hj, List.drop_eq_getElem_cons hj', List.drop_set_of_lt (by omega)]
  simp only [pass]
  rw [if_pos hw, List.take_set, List.take_succ_eq_append_getElem hj', List.set_append_right _ _ (by simp; omega)]
  simp [show j - min j hs.length = 0 by omega]
theorem psR_over (hl : hs.length = cs.length) (hj : j < cs.length) (hw : wib (outM d (mom d cs[j] (hs[j]'(by omega)) v)) most = false) : (psR d most cs hs j v).2 = none := by
  have hj' : j < hs.length := by omega
  unfold psR
  rw [List.drop_eq_getElem_cons hj, List.drop_eq_getElem_cons hj']
  simp only [pass]
  rw [if_neg (by simp [hw])]
theorem psR_end (hl : hs.length = cs.length) (hj : j = cs.length) : psR d most cs hs j v = (hs, some v) := by
  unfold psR
  rw [List.drop_of_length_le (by omega), List.drop_of_length_le (show hs.length ≤ j by omega), List.take_of_length_le (by omega)]
  simp [pass]
end
/-- What a signal becomes, when its first k numbers are done. -/
def thR (d : Bool) (most : Int) (cs : List Cur) (hs : List (List (Int × Int))) (xs : List Int) (k : Nat) (ys : List Int) : Option (List Int) :=
  (thr d most cs hs (xs.drop k)).map (ys ++ ·)
section
variable {d : Bool} {most : Int} {cs : List Cur} {hs : List (List (Int × Int))} {xs ys : List Int} {k : Nat}
theorem thR_zero : thR d most cs hs xs 0 [] = thr d most cs hs xs := by simp [thR]
theorem thR_go (hk : k < xs.length) {hs' : List (List (Int × Int))} {o : Int} (hp : pass d most cs hs xs[k] = (hs', some o)) : thR d most cs hs' xs (k + 1) (ys ++ [o]) = thR d most cs hs xs k ys := by
  unfold thR
  rw [List.drop_eq_getElem_cons hk]
  simp only [thr]
  rw [hp]
  cases h : thr d most cs hs' (xs.drop (k + 1)) <;> simp [h]
theorem thR_over (hk : k < xs.length) (hp : (pass d most cs hs xs[k]).2 = none) : thR d most cs hs xs k ys = none := by
  unfold thR
  rw [List.drop_eq_getElem_cons hk]
  simp only [thr]
  generalize pass d most cs hs xs[k] = q at hp ⊢
  obtain ⟨a, b⟩ := q
  dsimp only at hp
  subst hp
  rfl
theorem thR_end (hk : k = xs.length) : thR d most cs hs xs k ys = some ys := by
  unfold thR
  rw [List.drop_of_length_le (by omega)]
  simp [thr]
end
theorem pass_len {d : Bool} {most : Int} : ∀ {cs : List Cur} {hs : List (List (Int × Int))} {v : Int}, (pass d most cs hs v).1.length = hs.length
  | [], hs, v => by cases hs <;> rfl
  | _ :: _, [], v => rfl
  | c :: cs, h :: hs, v => by
    simp only [pass]
    split
    · simp [pass_len]
    · simp
end Go.Proofs.Ytjaomjbhkgijbaa

/-
  Steps that run, as a list: what each is in memory, and what a call of one of them changes.
-/
namespace Go.Proofs.Ytjaomjbhkgijbaa
open Go.RowKit

/-- A step as it lies in memory: the blocks of its direction and its state, its lists, its curve. -/
structure SR where
  d : Nat
  g : Nat
  Af : Option Addr
  Ab : Option Addr
  nf : Nat
  kf : Nat
  nb : Nat
  kb : Nat
  c : Cur
def stepFn (dir : Bool) : Nat := if dir then 166 else 171
def dirTy (dir : Bool) : TypeId := if dir then 143 else 145
def SR.val (dir : Bool) (s : SR) : Value := .func (.func (stepFn dir)) #[] #[.pointer (some ⟨s.d, 0, none⟩), .pointer (some ⟨s.g, 0, none⟩)]
/-- A step that runs: its state, and the moments that it remembers. -/
structure Live (w : World) (B : Nat) (dir : Bool) (s : SR) (h : List (Int × Int)) : Prop where
  st : St w s.g h (h.length % 8) (.slice s.Af s.nf s.kf) (.slice s.Ab s.nb s.kb) s.c.share
  dr : Blk w s.d (dirTy dir) #[]
  fd : LI w B s.Af s.nf s.c.feed
  bk : LI w B s.Ab s.nb s.c.back
  gB : B ≤ s.g
  dB : B ≤ s.d
  ok : CurOk s.c
  sm : Small h
theorem blk_ne {w : World} {g g' : Nat} {t t' : TypeId} {cs cs' : Array Value} (h : Blk w g t cs) (h' : Blk w g' t' cs') (ht : t ≠ t') : g ≠ g' := by
  rintro rfl
  unfold Blk at h h'
  rw [h] at h'
  injection h' with h'
  injection h' with _ h'
  exact ht h'
theorem grown_below {w w' : World} {B : Nat} {row : Option Nat} (h : w.grownBy w' row) (hB : B ≤ w.heap.size) (hr : ∀ k, row = some k → B ≤ k) : Below B w w' :=
  ⟨h.os, h.tape, h.output, h.size, fun k hk => h.block k (Nat.lt_of_lt_of_le hk hB) (fun e => by have := hr k e.symm; omega)⟩
section
variable {w w' : World} {B : Nat} {dir : Bool} {s : SR} {h : List (Int × Int)}
theorem Live.BS (H : Live w B dir s h) : B ≤ w.heap.size := Nat.le_of_lt (Nat.lt_of_le_of_lt H.gB H.st.lt)
theorem Live.grown (H : Live w B dir s h) {row : Option Nat} (hg : w.grownBy w' row) (h1 : some s.g ≠ row) (h2 : some s.d ≠ row) (h3 : ∀ k, row = some k → B ≤ k) : Live w' B dir s h :=
  have hb := grown_below hg H.BS h3
  ⟨H.st.grown hg h1, H.dr.grown hg h2, H.fd.below hb (Nat.le_refl _), H.bk.below hb (Nat.le_refl _), H.gB, H.dB, H.ok, H.sm⟩
theorem Live.below (H : Live w B dir s h) {B' : Nat} (hb : Below B' w w') (h1 : s.g < B') (h2 : s.d < B') : Live w' B dir s h :=
  have hB : B ≤ B' := Nat.le_of_lt (Nat.lt_of_le_of_lt H.gB h1)
  ⟨H.st.below hb h1, H.dr.below hb h2, H.fd.below hb hB, H.bk.below hb hB, H.gB, H.dB, H.ok, H.sm⟩
end
/-- What a call of a step leaves: what it answers, its state with one more moment, and all else as it was. -/
def StepPost (w : World) (dir : Bool) (s : SR) (h : List (Int × Int)) (v : Int) (e : Ending) (w' : World) : Prop :=
  e = .returned (.int .i64 (outM dir (mom dir s.c h v))) ∧ St w' s.g (mom dir s.c h v :: h) ((h.length + 1) % 8) (.slice s.Af s.nf s.kf) (.slice s.Ab s.nb s.kb) s.c.share ∧ w.grownBy w' (some s.g)
theorem dir_ne (dir : Bool) : dirTy dir ≠ 201 := by cases dir <;> decide
theorem step_any (dir : Bool) (B : Nat) (s : SR) (h : List (Int × Int)) (v : Int) (w : World) (H : Live w B dir s h) (hv : -1099511627776 ≤ v ∧ v ≤ 1099511627776) :
    Calls Try.prog (stepFn dir) #[.int .i64 v, .pointer (some ⟨s.d, 0, none⟩), .pointer (some ⟨s.g, 0, none⟩)] w (StepPost w dir s h v) := by
  have e : (h.length % 8 + 1) % 8 = (h.length + 1) % 8 := by omega
  cases dir
  · refine (step_back_any B s.g s.d (h.length % 8) s.c h s.Af s.Ab s.nf s.kf s.nb s.kb v w H.st H.dr (by omega) H.fd H.bk H.BS H.ok H.sm hv).mono ?_
    rintro e' w' ⟨h1, h2, h3⟩
    rw [e] at h2
    exact ⟨h1, h2, h3⟩
  · refine (step_forth_any B s.g s.d (h.length % 8) s.c h s.Af s.Ab s.nf s.kf s.nb s.kb v w H.st H.dr (by omega) H.fd H.bk H.BS H.ok H.sm hv).mono ?_
    rintro e' w' ⟨h1, h2, h3⟩
    rw [e] at h2
    exact ⟨h1, h2, h3⟩
theorem step_enters (dir : Bool) (args : Array Value) (w : World) : (callFunc (stepFn dir) args).run Try.prog w = .ok (.enter (stepFn dir) args) w := by
  cases dir
  · exact enters_of Try.func171 (by kernel_rfl) rfl args w
  · exact enters_of Try.func166 (by kernel_rfl) rfl args w
/-- All steps run, each with a state of its own. -/
structure Lives (w : World) (B : Nat) (dir : Bool) (l : List SR) (hs : List (List (Int × Int))) : Prop where
  len : hs.length = l.length
  inj : ∀ i j (hi : i < l.length) (hj : j < l.length), l[i].g = l[j].g → i = j
  all : ∀ i (hi : i < l.length) (hh : i < hs.length), Live w B dir l[i] hs[i]
section
variable {w w' : World} {B : Nat} {dir : Bool} {l : List SR} {hs : List (List (Int × Int))}
theorem Lives.nil_ : Lives w B dir [] [] := ⟨rfl, fun i j hi => absurd hi (by simp), fun i hi => absurd hi (by simp)⟩
theorem Lives.at_ (H : Lives w B dir l hs) {i : Nat} (hi : i < l.length) : Live w B dir l[i] (hs[i]'(by rw [H.len]; exact hi)) := H.all i hi (by rw [H.len]; exact hi)
/-- Growth by a row of another type of cells. -/
theorem Lives.grown (H : Lives w B dir l hs) {v : Value} {base n size : Nat} {e : TypeId} {xs : List Value} (ho : w.ownsRow base e size v n xs) (hB : B ≤ base) (he1 : e ≠ 201) (he2 : e ≠ dirTy dir) (hg : w.grownBy w' v.ownBlock) : Lives w' B dir l hs := by
  have key : ∀ (g : Nat) (t : TypeId) (cs : Array Value), Blk w g t cs → e ≠ t → some g ≠ v.ownBlock := by
    intro g t cs hb ht hv
    rcases ho.2 with ⟨rfl, _⟩ | ⟨g', cap, cur, rfl, _, hg', _⟩
    · simp [Value.ownBlock] at hv
    · simp [Value.ownBlock] at hv
      subst hv
      exact blk_ne (w := w) (cs := cur) hg' hb ht rfl
  refine ⟨H.len, H.inj, fun i hi hh => (H.all i hi hh).grown hg (key _ _ _ (H.all i hi hh).st he1) (key _ _ _ (H.all i hi hh).dr he2) fun k hk => ?_⟩
  rcases ho.2 with ⟨rfl, _⟩ | ⟨g', cap, cur, rfl, hb, _⟩
  · simp [Value.ownBlock] at hk
  · simp [Value.ownBlock] at hk
    omega
theorem Lives.below (H : Lives w B dir l hs) (hb : Below w.heap.size w w') : Lives w' B dir l hs :=
  ⟨H.len, H.inj, fun i hi hh => (H.all i hi hh).below hb (H.all i hi hh).st.lt (H.all i hi hh).dr.lt⟩
/-- One step goes on. -/
theorem Lives.step (H : Lives w B dir l hs) {i : Nat} (hi : i < l.length) {h' : List (Int × Int)} (hg : w.grownBy w' (some l[i].g)) (hs' : St w' l[i].g h' (h'.length % 8) (.slice l[i].Af l[i].nf l[i].kf) (.slice l[i].Ab l[i].nb l[i].kb) l[i].c.share) (hm : Small h') : Lives w' B dir l (hs.set i h') := by
  have hgB : ∀ k, some l[i].g = some k → B ≤ k := fun k hk => by injection hk with hk; have := (H.at_ hi).gB; omega
  refine ⟨by rw [List.length_set]; exact H.len, H.inj, fun j hj hh => ?_⟩
  have Hj := H.at_ hj
  by_cases e : i = j
  · subst e
    rw [List.getElem_set_self]
    have hb := grown_below hg Hj.BS hgB
    exact ⟨hs', Hj.dr.grown hg (fun e => by injection e with e; exact blk_ne Hj.dr Hj.st (dir_ne dir) e), Hj.fd.below hb (Nat.le_refl _), Hj.bk.below hb (Nat.le_refl _), Hj.gB, Hj.dB, Hj.ok, hm⟩
  · rw [List.getElem_set_ne e]
    refine Hj.grown hg (fun e' => by injection e' with e'; exact e (H.inj i j hi hj e'.symm)) (fun e' => by injection e' with e'; exact blk_ne Hj.dr (H.at_ hi).st (dir_ne dir) e') hgB
end
/-- A row of the call's own is not touched by a step. -/
theorem own_step {w w' : World} {base n size g : Nat} {e : TypeId} {v : Value} {xs : List Value} {cs : Array Value} (ho : w.ownsRow base e size v n xs) (hb : Blk w g 201 cs) (he : e ≠ 201) (hg : w.grownBy w' (some g)) : w'.ownsRow base e size v n xs := by
  refine ⟨ho.1, ho.2.imp id ?_⟩
  rintro ⟨g', cap, cur, hv, hbg, hg', rest⟩
  refine ⟨g', cap, cur, hv, hbg, ?_, rest⟩
  have hlt : g' < w.heap.size := Blk.lt (w := w) (cs := cur) hg'
  exact (hg.block g' hlt (fun e' => by injection e' with e'; exact blk_ne (w := w) (cs := cur) hg' hb he e')).trans hg'
/-- Two rows of different cells: to append to one leaves the other. -/
theorem own_other {w w' : World} {base base' n n' size size' : Nat} {e e' : TypeId} {v v' : Value} {xs xs' : List Value} (ho : w.ownsRow base e size v n xs) (ho' : w.ownsRow base' e' size' v' n' xs') (he : e ≠ e') (hg : w.grownBy w' v'.ownBlock) : w'.ownsRow base e size v n xs := by
  refine ⟨ho.1, ho.2.imp id ?_⟩
  rintro ⟨g, cap, cur, hv, hbg, hg', rest⟩
  refine ⟨g, cap, cur, hv, hbg, ?_, rest⟩
  have hlt : g < w.heap.size := Blk.lt (w := w) (cs := cur) hg'
  refine (hg.block g hlt (fun e1 => ?_)).trans hg'
  rcases ho'.2 with ⟨rfl, _⟩ | ⟨g2, cap2, cur2, rfl, _, hg2, _⟩
  · simp [Value.ownBlock] at e1
  · simp [Value.ownBlock] at e1
    subst e1
    exact blk_ne (w := w) (cs := cur) (cs' := cur2) hg' hg2 he rfl
theorem mom_small {dir : Bool} {c : Cur} {h : List (Int × Int)} {v most : Int} (hh : Small h) (hv : wib v most = true) (hw : wib (outM dir (mom dir c h v)) most = true) (hm : most ≤ 1099511627776) : Small (mom dir c h v :: h) := by
  intro m hm'
  rcases List.mem_cons.1 hm' with rfl | hm'
  · cases dir <;> simp [mom, outM, wib] at hw hv ⊢ <;> omega
  · exact hh m hm'
end Go.Proofs.Ytjaomjbhkgijbaa

