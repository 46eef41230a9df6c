/-
  CheckCut of package lathe.
-/
import Derived.Test.YtgdkcbnpgpjnbaaL6
namespace Go.Proofs.Ytgdkcbnpgpjnbaa
open Go.RowKit

def cutE (b : Bk) (P : List Smp) (R : List Int) : Int := if erC b P R = 0 then (if (brkE b P R).isSome then 20 else 0) else erC b P R
def cutI (b : Bk) (P : List Smp) (R : List Int) : Int := if erC b P R = 0 then (match brkE b P R with | none => 0 | some e => e.2.1) else 0
def cutQ (b : Bk) (P : List Smp) (R : List Int) : Int := if erC b P R = 0 then (match brkE b P R with | none => 0 | some e => e.1) else 0

set_option maxRecDepth 100000 in
set_option maxHeartbeats 8000000 in
theorem CheckCut_any (B : Nat) (A AR : Option Addr) (n c m d : Nat) (b : Bk) (P : List Smp) (R : List Int) (w : World) (h0 : RS w B A n P) (h1 : LI w B AR m R) (hB : B ≤ w.heap.size) (hl : n ≤ 9223372036854775807) (hl' : m ≤ 9223372036854775807) :
    Calls Try.prog 19 #[.agg #[.int .i64 b.per, .int .i64 b.rim, .int .i64 b.core, .int .i64 b.land, .int .i64 b.slow, .int .i64 b.fast], .slice A n c, .slice AR m d] w fun e w' => e = .returned (.tuple #[.int .i64 (cutI b P R), .int .i64 (cutQ b P R), .int .i64 (cutE b P R)]) ∧ Below w.heap.size w w' := by
  have HP := Lib.hid (h0.more hB)
  have HR := Lib.hid (h1.more hB)
  have HN := Lib.hid h0.1
  clear h0 h1 hB
  have C1 := Lib.hid (fun W => CheckL_any b W)
  have C2 := Lib.hid (fun (W : World) (h : Below w.heap.size w W) => CheckPoints_any w.heap.size A n c P W (HP.out.below h (Nat.le_refl _)) h.size hl)
  have C3 := Lib.hid (fun (W : World) (h : Below w.heap.size w W) => checkCut_any A AR n c m d R W ((HR.out.below h (Nat.le_refl _)).more h.size) hl hl')
  have he : erC b P R = orL [ckB b, ckG P, ckR n R] := by rw [HN.out]; rfl
  obtain ⟨e1, h1⟩ : ∃ x, ckB b = x := ⟨_, rfl⟩
  obtain ⟨e2, h2⟩ : ∃ x, ckG P = x := ⟨_, rfl⟩
  obtain ⟨e3, h3⟩ : ∃ x, ckR n R = x := ⟨_, rfl⟩
  rw [h1] at C1
  rw [h2] at C2
  rw [h3] at C3
  rw [h1, h2, h3] at he
  obtain ⟨er_, h6⟩ : ∃ x, orL [e1, e2, e3] = x := ⟨_, rfl⟩
  rw [h6] at he
  have HER := Lib.hid he
  have HOR := Lib.hid (fun B A n c W h1 h2 h3 h4 => cmpOr_any B A n c [e1, e2, e3] W h1 h2 h3 h4)
  rw [h6] at HOR
  replace C1 := Lib.hid C1.out
  replace C2 := Lib.hid C2.out
  replace C3 := Lib.hid C3.out
  replace HOR := Lib.hid HOR.out
  clear h1 h2 h3 h6 he
  go_enter Try.func19, Try.ntmps19
  go_upto_region 1 with fail
  obtain ⟨w2, hW⟩ : ∃ W, (w.alloc (.cells #[.int .i64 b.per, .int .i64 b.rim, .int .i64 b.core, .int .i64 b.land, .int .i64 b.slow, .int .i64 b.fast] 23)).alloc (.cells #[.slice AR m d] 25) = W := ⟨_, rfl⟩
  have hb : Below w.heap.size w w2 := by rw [← hW]; exact ((Below.refl _ _).alloc (Nat.le_refl _) _).alloc (by simp) _
  have K1 : Hid (Blk w2 w.heap.size 23 #[.int .i64 b.per, .int .i64 b.rim, .int .i64 b.core, .int .i64 b.land, .int .i64 b.slow, .int .i64 b.fast]) := Lib.hid (by rw [← hW]; exact (Blk.new _ _ _).alloc _)
  have K2 : Hid (Blk w2 (w.heap.size + 1) 25 #[.slice AR m d]) := Lib.hid (by rw [← hW]; exact blk_al (by simp))
  have HB := Lib.hid hb
  have hsz2 := hb.size
  rw [hW]
  clear hW hb
  obtain ⟨t1, t2, t3, t4, t5, t6⟩ := K1.out.six
  have t7 := K2.out.one.1
  go_wp2_with fail
  refine wp_region_held_drew (S := fun w' => w'.cell? ⟨w.heap.size, 0, none⟩ = some (.int .i64 b.per) ∧ w'.cell? ⟨w.heap.size, 1, none⟩ = some (.int .i64 b.rim) ∧ w'.cell? ⟨w.heap.size, 2, none⟩ = some (.int .i64 b.core) ∧ w'.cell? ⟨w.heap.size, 3, none⟩ = some (.int .i64 b.land) ∧ w'.cell? ⟨w.heap.size, 4, none⟩ = some (.int .i64 b.slow) ∧ w'.cell? ⟨w.heap.size, 5, none⟩ = some (.int .i64 b.fast) ∧ w'.cell? ⟨w.heap.size + 1, 0, none⟩ = some (.slice AR m d)) (by kernel_rfl) ⟨t1, t2, t3, t4, t5, t6, t7⟩ (fun hHeld => ?_)
  obtain ⟨w3, hwd⟩ : ∃ wd, w2.drew = wd := ⟨_, rfl⟩
  have hb : Below w2.heap.size w2 w3 := by rw [← hwd]; exact (Below.refl _ _).drew
  have hsz3 := hb.size
  replace K1 := Lib.hid (K1.out.below hb K1.out.lt)
  replace K2 := Lib.hid (K2.out.below hb K2.out.lt)
  replace HB := Lib.hid (HB.out.trans (hb.mono (by omega)))
  rw [hwd] at hHeld ⊢
  clear hb hwd
  obtain ⟨t1, t2, t3, t4, t5, t6⟩ := K1.out.six
  have t7 := K2.out.one.1
  refine wpAnyH_take (i := 0) (oi := { dst := some 12, op := Go.Op.load 23 (Go.Operand.tmp 3), type := 23, pos := "lathe.go:25", after := #[], guard := none }) (v := ?vt3001) rfl (by kernel_rfl) (by kernel_rfl) (by kernel_rfl) (fun _ _ _ h => h) (Or.inl ⟨by rfl, ?ht3001⟩) hHeld ?_
  case ht3001 => intro w hSw; obtain ⟨s1, s2, s3, s4, s5, s6, s7⟩ := hSw; go_simp; try with_reducible rfl
  simp only [Act.put, List.setIfInBounds_toArray, List.set_cons_zero, List.set_cons_succ]
  refine wpAnyH_take (i := 2) (oi := { dst := some 14, op := Go.Op.move (Go.Operand.tmp 1), type := 24, pos := "lathe.go:25", after := #[], guard := none }) (v := ?vt3002) rfl (by kernel_rfl) (by kernel_rfl) (by kernel_rfl) (fun _ _ _ h => h) (Or.inl ⟨by rfl, ?ht3002⟩) hHeld ?_
  case ht3002 => intro w hSw; obtain ⟨s1, s2, s3, s4, s5, s6, s7⟩ := hSw; go_simp; try with_reducible rfl
  simp only [Act.put, List.setIfInBounds_toArray, List.set_cons_zero, List.set_cons_succ]
  refine wpAnyH_take (i := 4) (oi := { dst := some 16, op := Go.Op.move (Go.Operand.tmp 1), type := 24, pos := "lathe.go:25", after := #[], guard := none }) (v := ?vt3003) rfl (by kernel_rfl) (by kernel_rfl) (by kernel_rfl) (fun _ _ _ h => h) (Or.inl ⟨by rfl, ?ht3003⟩) hHeld ?_
  case ht3003 => intro w hSw; obtain ⟨s1, s2, s3, s4, s5, s6, s7⟩ := hSw; go_simp; try with_reducible rfl
  simp only [Act.put, List.setIfInBounds_toArray, List.set_cons_zero, List.set_cons_succ]
  refine wpAnyH_take (i := 5) (oi := { dst := some 17, op := Go.Op.load 25 (Go.Operand.tmp 5), type := 25, pos := "lathe.go:25", after := #[], guard := none }) (v := ?vt3004) rfl (by kernel_rfl) (by kernel_rfl) (by kernel_rfl) (fun _ _ _ h => h) (Or.inl ⟨by rfl, ?ht3004⟩) hHeld ?_
  case ht3004 => intro w hSw; obtain ⟨s1, s2, s3, s4, s5, s6, s7⟩ := hSw; go_simp; try with_reducible rfl
  simp only [Act.put, List.setIfInBounds_toArray, List.set_cons_zero, List.set_cons_succ]
  refine wpAnyH_ready (rs := [1]) (by kernel_rfl) (by simp) ?_
  refine AllReadyH.cons rfl (fun K hK => ?_) AllReadyH.nil
  go_simp
  have CALL := C1.out w3
  refine CALL.mono ?_
  rintro e w4 ⟨rfl, hb⟩
  clear CALL
  have hsz4 := hb.size
  replace K1 := Lib.hid (K1.out.below hb K1.out.lt)
  replace K2 := Lib.hid (K2.out.below hb K2.out.lt)
  replace HB := Lib.hid (HB.out.trans (hb.mono (by omega)))
  clear hb
  obtain ⟨t1, t2, t3, t4, t5, t6⟩ := K1.out.six
  have t7 := K2.out.one.1
  refine hK.out _ _ ?_ (fun hH3005 => ?_)
  · exact ⟨t1, t2, t3, t4, t5, t6, t7⟩
  clear hK K
  refine wpAnyH_ready (rs := [3]) (by kernel_rfl) (by simp) ?_
  refine AllReadyH.cons rfl (fun K hK => ?_) AllReadyH.nil
  go_simp
  have CALL := C2.out w4 HB.out
  refine CALL.mono ?_
  rintro e w5 ⟨rfl, hb⟩
  clear CALL
  have hsz5 := hb.size
  replace K1 := Lib.hid (K1.out.below hb K1.out.lt)
  replace K2 := Lib.hid (K2.out.below hb K2.out.lt)
  replace HB := Lib.hid (HB.out.trans (hb.mono (by omega)))
  clear hb
  obtain ⟨t1, t2, t3, t4, t5, t6⟩ := K1.out.six
  have t7 := K2.out.one.1
  refine hK.out _ _ ?_ (fun hH3006 => ?_)
  · exact ⟨t1, t2, t3, t4, t5, t6, t7⟩
  clear hK K
  refine wpAnyH_ready (rs := [6]) (by kernel_rfl) (by simp) ?_
  refine AllReadyH.cons rfl (fun K hK => ?_) AllReadyH.nil
  go_simp
  have CALL := C3.out w5 HB.out
  refine CALL.mono ?_
  rintro e w6 ⟨rfl, hb⟩
  clear CALL
  have hsz6 := hb.size
  replace K1 := Lib.hid (K1.out.below hb K1.out.lt)
  replace K2 := Lib.hid (K2.out.below hb K2.out.lt)
  replace HB := Lib.hid (HB.out.trans (hb.mono (by omega)))
  clear hb
  obtain ⟨t1, t2, t3, t4, t5, t6⟩ := K1.out.six
  have t7 := K2.out.one.1
  refine hK.out _ _ ?_ (fun hH3007 => ?_)
  · exact ⟨t1, t2, t3, t4, t5, t6, t7⟩
  clear hK K
  refine wpAnyH_ready (rs := [7]) (by kernel_rfl) (by simp) ?_
  refine AllReadyH.cons rfl (fun K hK => ?_) AllReadyH.nil
  go_simp
  obtain ⟨w7, hW⟩ : ∃ W, w6.alloc (.cells #[.int .i64 e1, .int .i64 e2, .int .i64 e3] 28) = W := ⟨_, rfl⟩
  have hb : Below w6.heap.size w6 w7 := by rw [← hW]; exact (Below.refl _ _).alloc (Nat.le_refl _) _
  have hsz7 := hb.size
  replace K1 := Lib.hid (K1.out.below hb K1.out.lt)
  replace K2 := Lib.hid (K2.out.below hb K2.out.lt)
  replace HB := Lib.hid (HB.out.trans (hb.mono (by omega)))
  have KE : Hid (Blk w7 w6.heap.size 28 #[.int .i64 e1, .int .i64 e2, .int .i64 e3]) := Lib.hid (by rw [← hW]; exact Blk.new _ _ _)
  try rw [hW]
  clear hW hb
  obtain ⟨t1, t2, t3, t4, t5, t6⟩ := K1.out.six
  have t7 := K2.out.one.1
  skip
  refine hK.out _ _ ?_ (fun hH3008 => ?_)
  · exact ⟨t1, t2, t3, t4, t5, t6, t7⟩
  clear hK K
  refine wpAnyH_ready (rs := [8]) (by kernel_rfl) (by simp) ?_
  refine AllReadyH.cons rfl (fun K hK => ?_) AllReadyH.nil
  go_simp
  have CALL := HOR.out (w7.heap.size) _ 3 3 w7 rfl (reads_cells KE.out KE.out.lt (by rfl) (by rfl)) (Nat.le_refl _) (by omega)
  refine CALL.mono ?_
  rintro e w_ ⟨rfl, rfl⟩
  clear CALL
  refine hK.out _ _ ?_ (fun hH3009 => ?_)
  · exact ⟨t1, t2, t3, t4, t5, t6, t7⟩
  clear hK K
  refine wpAnyH_take (i := 9) (oi := { dst := some 9, op := Go.Op.assign (Go.Operand.tmp 20), type := 28, pos := "lathe.go:25", after := #[{ on := 8, ground := Go.Ground.data }, { on := 8, ground := Go.Ground.chain }, { on := 0, ground := Go.Ground.phase }, { on := 1, ground := Go.Ground.phase }, { on := 2, ground := Go.Ground.phase }, { on := 3, ground := Go.Ground.phase }, { on := 4, ground := Go.Ground.phase }, { on := 5, ground := Go.Ground.phase }, { on := 6, ground := Go.Ground.phase }, { on := 7, ground := Go.Ground.phase }, { on := 8, ground := Go.Ground.phase }], guard := none }) (v := ?vt3010) rfl (by kernel_rfl) (by kernel_rfl) (by kernel_rfl) (fun _ _ _ h => h) (Or.inl ⟨by rfl, ?ht3010⟩) hH3009 ?_
  case ht3010 => intro w hSw; obtain ⟨s1, s2, s3, s4, s5, s6, s7⟩ := hSw; go_simp; try with_reducible rfl
  simp only [Act.put, List.setIfInBounds_toArray, List.set_cons_zero, List.set_cons_succ]
  refine wpAnyH_done (by kernel_rfl) ?_ _
  clear C1 C2 C3 HOR KE hHeld
  by_cases hz : er_ = 0
  · subst hz
    have CI := Lib.hid (erC_ok HER.out)
    have hn6 : n ≤ 1000000 := by have := CI.out.n; rw [← HN.out] at this; omega
    go_wp2_with fail
    refine (edges_any A n c b w7).mono ?_
    rintro e w8 ⟨rfl, hw8⟩
    have hb8 : Below w7.heap.size w7 w8 := by rw [← hw8]; exact below_a _ _
    have K3 : Blk w8 w7.heap.size 69 #[.int .i64 b.per, .int .i64 b.rim, .int .i64 b.core, .int .i64 b.land, .int .i64 b.slow, .int .i64 b.fast, .slice A n c] := by rw [← hw8]; exact Blk.new _ _ _
    have HB8 := Lib.hid (HB.out.trans (hb8.mono HB.out.size))
    have FE := firstE_any w7.heap.size (w.heap.size + 1) w.heap.size A AR n c m d b P R w8 K3 (K2.out.below hb8 K2.out.lt) (HP.out.below HB8.out (Nat.le_refl _)) (HR.out.below HB8.out (Nat.le_refl _)) HB8.out.size hn6 CI.out
    obtain ⟨W8, hW8⟩ : ∃ W, w8 = W := ⟨_, rfl⟩
    rw [hW8] at FE HB8 ⊢
    replace HB8 := Lib.hid HB8.out
    clear hb8 K3 hw8 hW8 hn6
    cases hE : brkE b P R with
    | none =>
      have E1 : Hid (cutE b P R = 0) := Lib.hid (by unfold cutE; rw [if_pos HER.out, hE]; rfl)
      have E2 : Hid (cutI b P R = 0) := Lib.hid (by unfold cutI; rw [if_pos HER.out, hE])
      have E3 : Hid (cutQ b P R = 0) := Lib.hid (by unfold cutQ; rw [if_pos HER.out, hE])
      rw [hE] at FE
      unfold edV at FE
      have FE := Lib.hid FE
      clear hE
      go_wp2_with fail
      refine FE.out.mono ?_
      rintro e w9 ⟨rfl, hb9⟩
      have HB9 := Lib.hid (HB8.out.trans (hb9.mono HB8.out.size))
      clear hb9
      go_wp2
      go_ret3
      rw [E1.out, E2.out, E3.out]
      exact ⟨rfl, HB9.out.alloc HB9.out.size _⟩
    | some ee =>
      obtain ⟨q1, q2, q3, q4, q5⟩ := ee
      have E1 : Hid (cutE b P R = 20) := Lib.hid (by unfold cutE; rw [if_pos HER.out, hE]; rfl)
      have E2 : Hid (cutI b P R = q2) := Lib.hid (by unfold cutI; rw [if_pos HER.out, hE])
      have E3 : Hid (cutQ b P R = q1) := Lib.hid (by unfold cutQ; rw [if_pos HER.out, hE])
      rw [hE] at FE
      unfold edV edCells at FE
      dsimp only at FE
      have FE := Lib.hid FE
      clear hE
      go_wp2_with fail
      refine FE.out.mono ?_
      rintro e w9 ⟨rfl, hb9⟩
      have HB9 := Lib.hid (HB8.out.trans (hb9.mono HB8.out.size))
      clear hb9
      go_upto_region 6 with fail
      obtain ⟨V, hV⟩ : ∃ V, w9.alloc (.cells #[.int .i64 q1, .int .i64 q2, .int .i64 q3, .int .i64 q4, .int .i64 q5] 78) = V := ⟨_, rfl⟩
      have kv : Blk V w9.heap.size 78 #[.int .i64 q1, .int .i64 q2, .int .i64 q3, .int .i64 q4, .int .i64 q5] := by rw [← hV]; exact Blk.new _ _ _
      have HBV : Hid (Below w.heap.size w V) := Lib.hid (by rw [← hV]; exact HB9.out.alloc HB9.out.size _)
      rw [hV]
      obtain ⟨y0, y1, y2, y3, y4, -⟩ := kv.five
      clear hV kv
      go_wp2_with fail
      go_quiet (fail)
      go_wp2
      go_ret3
      rw [E1.out, E2.out, E3.out]
      exact ⟨rfl, by first | exact HBV.out | exact HBV.out.drew | exact below_drewN_ HBV.out _⟩
  · have q1 : (er_ != 0) = true := by rw [bne_iff_ne]; exact hz
    have q2 : (er_ == 0) = false := beq_eq_false_iff_ne.2 hz
    have hne : ¬ erC b P R = 0 := by rw [HER.out]; exact hz
    have E1 : Hid (cutE b P R = er_) := Lib.hid (by unfold cutE; rw [if_neg hne]; exact HER.out)
    have E2 : Hid (cutI b P R = 0) := Lib.hid (by unfold cutI; rw [if_neg hne])
    have E3 : Hid (cutQ b P R = 0) := Lib.hid (by unfold cutQ; rw [if_neg hne])
    clear hz hne
    go_wp2
    go_ret3
    rw [E1.out, E2.out, E3.out]
    exact ⟨rfl, HB.out⟩
end Go.Proofs.Ytgdkcbnpgpjnbaa
