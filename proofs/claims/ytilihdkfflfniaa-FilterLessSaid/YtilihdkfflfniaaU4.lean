/-
  A curve begins: the step that 'running' returns.
-/
import Derived.Test.YtilihdkfflfniaaU2
import Derived.Deep.MidRow
namespace Go.Proofs.Ytilihdkfflfniaa
open Go.RowKit

/-- What 'running' returns: a closure over the direction and the state, both new. -/
def RunPost (w : World) (fn ty : Nat) (F B : Value) (sh : Int) (e : Ending) (w' : World) : Prop :=
  ∃ d g, e = .returned (.func (.func fn) #[] #[.pointer (some ⟨d, 0, none⟩), .pointer (some ⟨g, 0, none⟩)]) ∧ w.heap.size ≤ d ∧ w.heap.size ≤ g ∧ d ≠ g ∧ Below w.heap.size w w' ∧ Blk w' d ty #[] ∧ St w' g [] 0 F B sh
theorem stC_lit (F B : Value) (sh : Int) : stC [] 0 F B sh = #[.int .i64 0, .int .i64 0, .int .i64 0, .int .i64 0, .int .i64 0, .int .i64 0, .int .i64 0, .int .i64 0, .int .i64 0, .int .i64 0, .int .i64 0, .int .i64 0, .int .i64 0, .int .i64 0, .int .i64 0, .int .i64 0, .int .i64 0, F, B, .int .i64 sh] := rfl
def sets (cs : Array Value) : Nat → List Value → Array Value
  | _, [] => cs
  | o, v :: r => sets (cs.setIfInBounds o v) (o + 1) r
theorem Blk.sets {g : Nat} {t : TypeId} : ∀ (vs : List Value) (o : Nat) {w : World} {cs : Array Value}, Blk w g t cs → Blk (w.setCells g o vs) g t (sets cs o vs)
  | [], _, _, _, h => h
  | v :: r, o, _, _, h => Blk.sets r (o + 1) (h.set_ o v)
theorem Blk.sets_far {g b : Nat} {t : TypeId} {cs : Array Value} : ∀ (vs : List Value) (o : Nat) {w : World}, g ≠ b → Blk w g t cs → Blk (w.setCells b o vs) g t cs
  | [], _, _, _, h => h
  | v :: r, o, _, hne, h => Blk.sets_far r (o + 1) hne (h.far (p := ⟨b, o, none⟩) hne v)
theorem sets_below {B b : Nat} {a : World} (hb : B ≤ b) : ∀ (vs : List Value) (o : Nat) {w : World}, Below B a w → Below B a (w.setCells b o vs)
  | [], _, _, h => h
  | v :: r, o, _, h => sets_below hb r (o + 1) (h.setCell hb v)
theorem sets_all : ∀ (vs : List Value) (cs : List Value) (o : Nat), o + vs.length = cs.length → sets cs.toArray o vs = (cs.take o ++ vs).toArray
  | [], cs, o, h => by simp [sets, show o = cs.length by simpa using h]
  | v :: r, cs, o, h => by
    have ho : o < cs.length := by simp at h; omega
    show sets (cs.toArray.setIfInBounds o v) (o + 1) r = _
    rw [List.setIfInBounds_toArray, sets_all r (cs.set o v) (o + 1) (by simp at h ⊢; omega), List.take_succ_eq_append_getElem (by simpa using ho), List.take_set, List.set_eq_of_length_le (by simp; omega)]
    simp
theorem sets_stC (F B F' B' : Value) (sh sh' : Int) : sets (stC [] 0 F B sh) 0 (stC [] 0 F' B' sh').toList = stC [] 0 F' B' sh' := by
  rw [show stC [] 0 F B sh = (stC [] 0 F B sh).toList.toArray from rfl, sets_all _ _ 0 (by rw [stC_lit, stC_lit]; rfl)]
  rfl

set_option maxRecDepth 100000 in
set_option maxHeartbeats 1000000 in
theorem run_forth_any (Af Ab : Option Addr) (nf kf nb kb : Nat) (sh : Int) (w : World) :
    Calls Try.prog 49 #[.agg #[.slice Af nf kf, .slice Ab nb kb, .int .i64 sh]] w (RunPost w 78 68 (.slice Af nf kf) (.slice Ab nb kb) sh) := by
  have hmf : ∀ (fn : Fn) (first cap : Array Value) (w : World), (Instr.makeFunc fn first cap).run Try.prog w = .ok (.func fn first cap) w := fun _ _ _ _ => rfl
  go_enter Try.func49, Try.ntmps49
  go_upto_region 2 with fail
  refine wp_region_list ?_
  refine wpList_plain rfl (fun K hK => ?_)
  go_simp
  refine hK _ _ ?_
  refine wpList_plain rfl (fun K hK => ?_)
  go_simp
  refine hK _ _ ?_
  refine wpList_plain rfl (fun K hK => ?_)
  go_simp
  refine hK _ _ ?_
  refine wpList_store_mid rfl 99 _ _ rfl _ _ _ rfl rfl ?ht (by kernel_rfl) (by first | kernel_rfl | simp [Value.oneCell']) ?_
  case ht =>
    intro k hk
    have hb := Blk.new ((w.alloc (.cells #[.slice Af nf kf, .slice Ab nb kb, .int .i64 sh] 24)).alloc (.cells #[] 68)) 99 (stC [] 0 (.slice none 0 0) (.slice none 0 0) 0)
    have hk' : k < 20 := hk
    have e := hb.cell k
    have f := hb.frozen k
    simp only [World.size_alloc] at e f
    refine ⟨?_, ?_⟩
    · rw [Nat.zero_add]
      refine (congrArg Option.isSome e).trans ?_
      rw [Array.getElem?_eq_getElem (show k < (stC [] 0 (.slice none 0 0) (.slice none 0 0) 0).size from hk')]; rfl
    · rw [Nat.zero_add]; exact f
  obtain ⟨V, hV⟩ : ∃ V, (((w.alloc (.cells #[.slice Af nf kf, .slice Ab nb kb, .int .i64 sh] 24)).alloc (.cells #[] 68)).alloc (.cells (stC [] 0 (.slice none 0 0) (.slice none 0 0) 0) 99)).setCells (w.heap.size + 1 + 1) 0 (stC [] 0 (.slice Af nf kf) (.slice Ab nb kb) sh).toList = V := ⟨_, rfl⟩
  have hs : Hid (St V (w.heap.size + 1 + 1) [] 0 (.slice Af nf kf) (.slice Ab nb kb) sh) := Lib.hid (by
    rw [← hV]
    refine (Blk.sets _ 0 (by have := Blk.new ((w.alloc (.cells #[.slice Af nf kf, .slice Ab nb kb, .int .i64 sh] 24)).alloc (.cells #[] 68)) 99 (stC [] 0 (.slice none 0 0) (.slice none 0 0) 0); simp only [World.size_alloc] at this; exact this)).cast (sets_stC _ _ _ _ _ _))
  have hd : Hid (Blk V (w.heap.size + 1) 68 #[]) := Lib.hid (by
    rw [← hV]
    refine Blk.sets_far _ 0 (by omega) ?_
    have := (Blk.new (w.alloc (.cells #[.slice Af nf kf, .slice Ab nb kb, .int .i64 sh] 24)) 68 #[]).alloc (.cells (stC [] 0 (.slice none 0 0) (.slice none 0 0) 0) 99)
    simp only [World.size_alloc] at this; exact this)
  have hb : Hid (Below w.heap.size w V) := Lib.hid (by
    rw [← hV]
    exact sets_below (by omega) _ 0 ((((Below.refl _ _).alloc (Nat.le_refl _) _).alloc (by simp) _).alloc (by simp; omega) _))
  simp only [stC_lit] at hV
  dsimp only
  rw [hV]
  clear hV
  go_wp2
  go_ret
  exact ⟨_, _, rfl, by omega, by omega, by omega, hb.out, hd.out, hs.out⟩

set_option maxRecDepth 100000 in
set_option maxHeartbeats 1000000 in
theorem run_back_any (Af Ab : Option Addr) (nf kf nb kb : Nat) (sh : Int) (w : World) :
    Calls Try.prog 54 #[.agg #[.slice Af nf kf, .slice Ab nb kb, .int .i64 sh]] w (RunPost w 82 73 (.slice Af nf kf) (.slice Ab nb kb) sh) := by
  have hmf : ∀ (fn : Fn) (first cap : Array Value) (w : World), (Instr.makeFunc fn first cap).run Try.prog w = .ok (.func fn first cap) w := fun _ _ _ _ => rfl
  go_enter Try.func54, Try.ntmps54
  go_upto_region 2 with fail
  refine wp_region_list ?_
  refine wpList_plain rfl (fun K hK => ?_)
  go_simp
  refine hK _ _ ?_
  refine wpList_plain rfl (fun K hK => ?_)
  go_simp
  refine hK _ _ ?_
  refine wpList_plain rfl (fun K hK => ?_)
  go_simp
  refine hK _ _ ?_
  refine wpList_store_mid rfl 99 _ _ rfl _ _ _ rfl rfl ?ht (by kernel_rfl) (by first | kernel_rfl | simp [Value.oneCell']) ?_
  case ht =>
    intro k hk
    have hb := Blk.new ((w.alloc (.cells #[.slice Af nf kf, .slice Ab nb kb, .int .i64 sh] 24)).alloc (.cells #[] 73)) 99 (stC [] 0 (.slice none 0 0) (.slice none 0 0) 0)
    have hk' : k < 20 := hk
    have e := hb.cell k
    have f := hb.frozen k
    simp only [World.size_alloc] at e f
    refine ⟨?_, ?_⟩
    · rw [Nat.zero_add]
      refine (congrArg Option.isSome e).trans ?_
      rw [Array.getElem?_eq_getElem (show k < (stC [] 0 (.slice none 0 0) (.slice none 0 0) 0).size from hk')]; rfl
    · rw [Nat.zero_add]; exact f
  obtain ⟨V, hV⟩ : ∃ V, (((w.alloc (.cells #[.slice Af nf kf, .slice Ab nb kb, .int .i64 sh] 24)).alloc (.cells #[] 73)).alloc (.cells (stC [] 0 (.slice none 0 0) (.slice none 0 0) 0) 99)).setCells (w.heap.size + 1 + 1) 0 (stC [] 0 (.slice Af nf kf) (.slice Ab nb kb) sh).toList = V := ⟨_, rfl⟩
  have hs : Hid (St V (w.heap.size + 1 + 1) [] 0 (.slice Af nf kf) (.slice Ab nb kb) sh) := Lib.hid (by
    rw [← hV]
    refine (Blk.sets _ 0 (by have := Blk.new ((w.alloc (.cells #[.slice Af nf kf, .slice Ab nb kb, .int .i64 sh] 24)).alloc (.cells #[] 73)) 99 (stC [] 0 (.slice none 0 0) (.slice none 0 0) 0); simp only [World.size_alloc] at this; exact this)).cast (sets_stC _ _ _ _ _ _))
  have hd : Hid (Blk V (w.heap.size + 1) 73 #[]) := Lib.hid (by
    rw [← hV]
    refine Blk.sets_far _ 0 (by omega) ?_
    have := (Blk.new (w.alloc (.cells #[.slice Af nf kf, .slice Ab nb kb, .int .i64 sh] 24)) 73 #[]).alloc (.cells (stC [] 0 (.slice none 0 0) (.slice none 0 0) 0) 99)
    simp only [World.size_alloc] at this; exact this)
  have hb : Hid (Below w.heap.size w V) := Lib.hid (by
    rw [← hV]
    exact sets_below (by omega) _ 0 ((((Below.refl _ _).alloc (Nat.le_refl _) _).alloc (by simp) _).alloc (by simp; omega) _))
  simp only [stC_lit] at hV
  dsimp only
  rw [hV]
  clear hV
  go_wp2
  go_ret
  exact ⟨_, _, rfl, by omega, by omega, by omega, hb.out, hd.out, hs.out⟩
end Go.Proofs.Ytilihdkfflfniaa
