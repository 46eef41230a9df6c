/-
  Hear of package play.
-/
import Derived.Test.YtjdnpgilinfkgaaHC
import Derived.Test.YtjdnpgilinfkgaaMA
namespace Go.Proofs.Ytjdnpgilinfkgaa
open Go.RowKit

theorem info_hd : (Try.prog.info? 44).map (fun i => (i.zero, i.size, i.bytes)) = some (some (.agg #[.int .i64 0, .int .i64 0, .int .i64 0, .int .i64 0]), 4, 32) := by kernel_rfl
def hdCells (hs : List Hrd) : List Value := hs.flatMap Hrd.cells
theorem hdCells_snoc (hs : List Hrd) (h : Hrd) : hdCells (hs ++ [h]) = hdCells hs ++ [.int .i64 h.a, .int .i64 h.b, .int .i64 h.c, .int .i64 h.d] := by simp [hdCells, Hrd.cells]
/-- What can be heard, as it lies in memory. -/
def RH (w : World) (B : Nat) (A : Option Addr) (n : Nat) (hs : List Hrd) : Prop := n = hs.length ∧ Reads w B 4 A n (hdCells hs)
theorem RH.below {w w' : World} {B B' : Nat} {A : Option Addr} {n : Nat} {xs : List Hrd} (h : RH w B A n xs) (hb : Below B' w w') (hB : B ≤ B') : RH w' B A n xs := ⟨h.1, h.2.below hb hB⟩
theorem RH.more {w : World} {B B' : Nat} {A : Option Addr} {n : Nat} {xs : List Hrd} (h : RH w B A n xs) (hB : B ≤ B') : RH w B' A n xs := ⟨h.1, h.2.more hB⟩
/-- What a call leaves that returns what can be heard and an error. -/
def HdPost (w : World) (er : Int) (l : List Hrd) (e : Ending) (w' : World) : Prop :=
  ∃ A n k, e = .returned (.tuple #[.slice A n k, .int .i64 er]) ∧ RH w' w'.heap.size A n l ∧ n ≤ k ∧ Below w.heap.size w w'
def hrL (N L : List Smp) (far n : Nat) : List Hrd := (List.range n).map (fun t => hdL N L (nbr t far n))
theorem hrL_len (N L : List Smp) (far n : Nat) : (hrL N L far n).length = n := by simp [hrL]
theorem hrL_take {N L : List Smp} {far n j : Nat} (h : j < n) : (hrL N L far n).take (j + 1) = (hrL N L far n).take j ++ [hdL N L (nbr j far n)] := by
  rw [List.take_succ_eq_append_getElem (by rw [hrL_len]; exact h)]
  simp [hrL]
def hrEr (b s : List Int) (l : List Smp) (wow : Int) : Int := orL [ckTip b, ckTip s, ckG l, ckBl b s, ckWo wow]
def hrRes (b s : List Int) (l : List Smp) (wow : Int) : List Hrd := if hrEr b s l wow = 0 then hrL (rdL b l) (rdL s l) wow.toNat l.length else []
theorem orL_z {xs : List Int} : orL xs = 0 ↔ ∀ x ∈ xs, x = 0 := by
  induction xs with
  | nil => simp [orL]
  | cons a xs ih => unfold orL; split <;> simp_all
theorem hrEr_z {b s : List Int} {l : List Smp} {wow : Int} : hrEr b s l wow = 0 ↔ ckTip b = 0 ∧ ckTip s = 0 ∧ ckG l = 0 ∧ ckBl b s = 0 ∧ ckWo wow = 0 := by unfold hrEr; rw [orL_z]; simp
theorem ckWo_z {x : Int} : ckWo x = 0 ↔ 0 ≤ x ∧ x ≤ 256 := by unfold ckWo; split <;> simp_all

set_option maxRecDepth 100000 in
set_option maxHeartbeats 8000000 in
theorem Hear_any (B : Nat) (Af A' A : Option Addr) (nf cf n' c' n c : Nat) (b s : List Int) (l : List Smp) (wow : Int) (w : World) (hL : LI w B Af nf b) (hS : LI w B A' n' s) (h0 : RS w B A n l) (hB : B ≤ w.heap.size) (hf : nf ≤ 9223372036854775807) (hf' : n' ≤ 9223372036854775807) (hl : n ≤ 9223372036854775807) :
    Calls Try.prog 26 #[.agg #[.slice Af nf cf], .agg #[.slice A' n' c'], .slice A n c, .int .i64 wow] w (HdPost w (hrEr b s l wow) (hrRes b s l wow)) := by
  have HN := Lib.hid h0.1
  have H := Lib.hid (h0.more hB)
  have HL := Lib.hid (hL.more hB)
  have HS := Lib.hid (hS.more hB)
  clear h0 hL hS hB
  have C1 := Lib.hid (fun W (hb : Below w.heap.size w W) => CheckTip_any w.heap.size Af nf cf b W (HL.out.below hb (Nat.le_refl _)) hb.size hf)
  have C2 := Lib.hid (fun W (hb : Below w.heap.size w W) => CheckTip_any w.heap.size A' n' c' s W (HS.out.below hb (Nat.le_refl _)) hb.size hf')
  have C3 := Lib.hid (fun W (hb : Below w.heap.size w W) => CheckPoints_any w.heap.size A n c l W (H.out.below hb (Nat.le_refl _)) hb.size hl)
  have C4 := Lib.hid (fun W (hb : Below w.heap.size w W) => checkBlunter_any w.heap.size Af A' nf cf n' c' b s W (HL.out.below hb (Nat.le_refl _)) (HS.out.below hb (Nat.le_refl _)) hb.size hf hf')
  have C5 := Lib.hid (fun W => checkWow_any wow W)
  have he : hrEr b s l wow = orL [ckTip b, ckTip s, ckG l, ckBl b s, ckWo wow] := rfl
  obtain ⟨e1, h1⟩ : ∃ x, ckTip b = x := ⟨_, rfl⟩
  obtain ⟨e2, h2⟩ : ∃ x, ckTip s = x := ⟨_, rfl⟩
  obtain ⟨e3, h3⟩ : ∃ x, ckG l = x := ⟨_, rfl⟩
  obtain ⟨e4, h4⟩ : ∃ x, ckBl b s = x := ⟨_, rfl⟩
  obtain ⟨e5, h5⟩ : ∃ x, ckWo wow = x := ⟨_, rfl⟩
  rw [h1] at C1
  rw [h2] at C2
  rw [h3] at C3
  rw [h4] at C4
  rw [h5] at C5
  rw [h1, h2, h3, h4, h5] at he
  obtain ⟨er_, h6⟩ : ∃ x, orL [e1, e2, e3, e4, e5] = x := ⟨_, rfl⟩
  rw [h6] at he
  have HER := Lib.hid he
  have HOR := Lib.hid (fun B A n c W h1 h2 h3 h4 => cmpOr_any B A n c [e1, e2, e3, e4, e5] W h1 h2 h3 h4)
  rw [h6] at HOR
  rw [he]
  clear h1 h2 h3 h4 h5 h6 he
  go_enter Try.func26, Try.ntmps26
  go_upto_region 1 with fail
  obtain ⟨w2, hW⟩ : ∃ W, (w.alloc (.cells #[.slice Af nf cf] 24)).alloc (.cells #[.slice A' n' c'] 24) = W := ⟨_, rfl⟩
  have hb : Below w.heap.size w w2 := by rw [← hW]; exact ((Below.refl _ _).alloc (Nat.le_refl _) _).alloc (by simp) _
  have K1 : Hid (Blk w2 w.heap.size 24 #[.slice Af nf cf]) := Lib.hid (by rw [← hW]; exact (Blk.new _ _ _).alloc _)
  have K2 : Hid (Blk w2 (w.heap.size + 1) 24 #[.slice A' n' c']) := Lib.hid (by rw [← hW]; exact blk_al (by simp))
  have HB := Lib.hid hb
  have hsz2 := hb.size
  rw [hW]
  clear hW hb
  have t1 := K1.out.one.1
  have t2 := K2.out.one.1
  go_wp2_with fail
  refine wp_region_held_drew (S := fun w' => w'.cell? ⟨w.heap.size, 0, none⟩ = some (.slice Af nf cf) ∧ w'.cell? ⟨w.heap.size + 1, 0, none⟩ = some (.slice A' n' c')) (by kernel_rfl) ⟨t1, t2⟩ (fun hHeld => ?_)
  obtain ⟨w3, hwd⟩ : ∃ wd, w2.drew = wd := ⟨_, rfl⟩
  have hb : Below w2.heap.size w2 w3 := by rw [← hwd]; exact (Below.refl _ _).drew
  have hsz3 := hb.size
  replace K1 := Lib.hid (K1.out.below hb K1.out.lt)
  replace K2 := Lib.hid (K2.out.below hb K2.out.lt)
  replace HB := Lib.hid (HB.out.trans (hb.mono (by omega)))
  rw [hwd] at hHeld ⊢
  clear hb hwd
  have t1 := K1.out.one.1
  have t2 := K2.out.one.1
  refine wpAnyH_take (i := 0) (oi := { dst := some 15, op := Go.Op.load 24 (Go.Operand.tmp 4), type := 24, pos := "play.go:73", after := #[], guard := none }) (v := ?vt3001) rfl (by kernel_rfl) (by kernel_rfl) (by kernel_rfl) (fun _ _ _ h => h) (Or.inl ⟨by rfl, ?ht3001⟩) hHeld ?_
  case ht3001 => intro w hSw; obtain ⟨s1, s2⟩ := hSw; go_simp; try with_reducible rfl
  simp only [Act.put, List.setIfInBounds_toArray, List.set_cons_zero, List.set_cons_succ]
  refine wpAnyH_take (i := 2) (oi := { dst := some 17, op := Go.Op.load 24 (Go.Operand.tmp 5), type := 24, pos := "play.go:73", after := #[], guard := none }) (v := ?vt3002) rfl (by kernel_rfl) (by kernel_rfl) (by kernel_rfl) (fun _ _ _ h => h) (Or.inl ⟨by rfl, ?ht3002⟩) hHeld ?_
  case ht3002 => intro w hSw; obtain ⟨s1, s2⟩ := hSw; go_simp; try with_reducible rfl
  simp only [Act.put, List.setIfInBounds_toArray, List.set_cons_zero, List.set_cons_succ]
  refine wpAnyH_take (i := 4) (oi := { dst := some 19, op := Go.Op.move (Go.Operand.tmp 2), type := 32, pos := "play.go:73", after := #[], guard := none }) (v := ?vt3003) rfl (by kernel_rfl) (by kernel_rfl) (by kernel_rfl) (fun _ _ _ h => h) (Or.inl ⟨by rfl, ?ht3003⟩) hHeld ?_
  case ht3003 => intro w hSw; obtain ⟨s1, s2⟩ := hSw; go_simp; try with_reducible rfl
  simp only [Act.put, List.setIfInBounds_toArray, List.set_cons_zero, List.set_cons_succ]
  refine wpAnyH_take (i := 6) (oi := { dst := some 21, op := Go.Op.load 24 (Go.Operand.tmp 4), type := 24, pos := "play.go:73", after := #[], guard := none }) (v := ?vt3004) rfl (by kernel_rfl) (by kernel_rfl) (by kernel_rfl) (fun _ _ _ h => h) (Or.inl ⟨by rfl, ?ht3004⟩) hHeld ?_
  case ht3004 => intro w hSw; obtain ⟨s1, s2⟩ := hSw; go_simp; try with_reducible rfl
  simp only [Act.put, List.setIfInBounds_toArray, List.set_cons_zero, List.set_cons_succ]
  refine wpAnyH_take (i := 7) (oi := { dst := some 22, op := Go.Op.load 24 (Go.Operand.tmp 5), type := 24, pos := "play.go:73", after := #[], guard := none }) (v := ?vt3005) rfl (by kernel_rfl) (by kernel_rfl) (by kernel_rfl) (fun _ _ _ h => h) (Or.inl ⟨by rfl, ?ht3005⟩) hHeld ?_
  case ht3005 => intro w hSw; obtain ⟨s1, s2⟩ := hSw; go_simp; try with_reducible rfl
  simp only [Act.put, List.setIfInBounds_toArray, List.set_cons_zero, List.set_cons_succ]
  refine wpAnyH_take (i := 9) (oi := { dst := some 24, op := Go.Op.move (Go.Operand.tmp 3), type := 2, pos := "play.go:73", after := #[], guard := none }) (v := ?vt3006) rfl (by kernel_rfl) (by kernel_rfl) (by kernel_rfl) (fun _ _ _ h => h) (Or.inl ⟨by rfl, ?ht3006⟩) hHeld ?_
  case ht3006 => intro w hSw; obtain ⟨s1, s2⟩ := hSw; go_simp; try with_reducible rfl
  simp only [Act.put, List.setIfInBounds_toArray, List.set_cons_zero, List.set_cons_succ]
  refine wpAnyH_ready (rs := [1]) (by kernel_rfl) (by simp) ?_
  refine AllReadyH.cons rfl (fun K hK => ?_) AllReadyH.nil
  go_simp
  have CALL := C1.out _ HB.out
  refine CALL.mono ?_
  rintro e w4 ⟨rfl, hb⟩
  clear CALL
  have hsz4 := hb.size
  replace K1 := Lib.hid (K1.out.below hb K1.out.lt)
  replace K2 := Lib.hid (K2.out.below hb K2.out.lt)
  replace HB := Lib.hid (HB.out.trans (hb.mono (by omega)))
  clear hb
  have t1 := K1.out.one.1
  have t2 := K2.out.one.1
  refine hK.out _ _ ?_ (fun hH3007 => ?_)
  · exact ⟨t1, t2⟩
  clear hK K
  refine wpAnyH_ready (rs := [3]) (by kernel_rfl) (by simp) ?_
  refine AllReadyH.cons rfl (fun K hK => ?_) AllReadyH.nil
  go_simp
  have CALL := C2.out _ HB.out
  refine CALL.mono ?_
  rintro e w5 ⟨rfl, hb⟩
  clear CALL
  have hsz5 := hb.size
  replace K1 := Lib.hid (K1.out.below hb K1.out.lt)
  replace K2 := Lib.hid (K2.out.below hb K2.out.lt)
  replace HB := Lib.hid (HB.out.trans (hb.mono (by omega)))
  clear hb
  have t1 := K1.out.one.1
  have t2 := K2.out.one.1
  refine hK.out _ _ ?_ (fun hH3008 => ?_)
  · exact ⟨t1, t2⟩
  clear hK K
  refine wpAnyH_ready (rs := [5]) (by kernel_rfl) (by simp) ?_
  refine AllReadyH.cons rfl (fun K hK => ?_) AllReadyH.nil
  go_simp
  have CALL := C3.out _ HB.out
  refine CALL.mono ?_
  rintro e w6 ⟨rfl, hb⟩
  clear CALL
  have hsz6 := hb.size
  replace K1 := Lib.hid (K1.out.below hb K1.out.lt)
  replace K2 := Lib.hid (K2.out.below hb K2.out.lt)
  replace HB := Lib.hid (HB.out.trans (hb.mono (by omega)))
  clear hb
  have t1 := K1.out.one.1
  have t2 := K2.out.one.1
  refine hK.out _ _ ?_ (fun hH3009 => ?_)
  · exact ⟨t1, t2⟩
  clear hK K
  refine wpAnyH_ready (rs := [8]) (by kernel_rfl) (by simp) ?_
  refine AllReadyH.cons rfl (fun K hK => ?_) AllReadyH.nil
  go_simp
  have CALL := C4.out _ HB.out
  refine CALL.mono ?_
  rintro e w7 ⟨rfl, hb⟩
  clear CALL
  have hsz7 := hb.size
  replace K1 := Lib.hid (K1.out.below hb K1.out.lt)
  replace K2 := Lib.hid (K2.out.below hb K2.out.lt)
  replace HB := Lib.hid (HB.out.trans (hb.mono (by omega)))
  clear hb
  have t1 := K1.out.one.1
  have t2 := K2.out.one.1
  refine hK.out _ _ ?_ (fun hH3010 => ?_)
  · exact ⟨t1, t2⟩
  clear hK K
  refine wpAnyH_ready (rs := [10]) (by kernel_rfl) (by simp) ?_
  refine AllReadyH.cons rfl (fun K hK => ?_) AllReadyH.nil
  go_simp
  have CALL := C5.out w7
  refine CALL.mono ?_
  rintro e w_ ⟨rfl, rfl⟩
  clear CALL
  refine hK.out _ _ ?_ (fun hH3011 => ?_)
  · exact ⟨t1, t2⟩
  clear hK K
  refine wpAnyH_ready (rs := [11]) (by kernel_rfl) (by simp) ?_
  refine AllReadyH.cons rfl (fun K hK => ?_) AllReadyH.nil
  go_simp
  obtain ⟨w8, hW⟩ : ∃ W, w7.alloc (.cells #[.int .i64 e1, .int .i64 e2, .int .i64 e3, .int .i64 e4, .int .i64 e5] 26) = W := ⟨_, rfl⟩
  have hb : Below w7.heap.size w7 w8 := by rw [← hW]; exact (Below.refl _ _).alloc (Nat.le_refl _) _
  have hsz8 := hb.size
  replace K1 := Lib.hid (K1.out.below hb K1.out.lt)
  replace K2 := Lib.hid (K2.out.below hb K2.out.lt)
  replace HB := Lib.hid (HB.out.trans (hb.mono (by omega)))
  have KE : Hid (Blk w8 w7.heap.size 26 #[.int .i64 e1, .int .i64 e2, .int .i64 e3, .int .i64 e4, .int .i64 e5]) := Lib.hid (by rw [← hW]; exact Blk.new _ _ _)
  try rw [hW]
  clear hW hb
  have t1 := K1.out.one.1
  have t2 := K2.out.one.1
  skip
  refine hK.out _ _ ?_ (fun hH3012 => ?_)
  · exact ⟨t1, t2⟩
  clear hK K
  refine wpAnyH_ready (rs := [12]) (by kernel_rfl) (by simp) ?_
  refine AllReadyH.cons rfl (fun K hK => ?_) AllReadyH.nil
  go_simp
  have CALL := HOR.out (w8.heap.size) _ 5 5 w8 rfl (reads_cells KE.out KE.out.lt (by rfl) (by rfl)) (Nat.le_refl _) (by omega)
  refine CALL.mono ?_
  rintro e w_ ⟨rfl, rfl⟩
  clear CALL
  refine hK.out _ _ ?_ (fun hH3013 => ?_)
  · exact ⟨t1, t2⟩
  clear hK K
  refine wpAnyH_take (i := 13) (oi := { dst := some 10, op := Go.Op.assign (Go.Operand.tmp 27), type := 26, pos := "play.go:73", after := #[{ on := 12, ground := Go.Ground.data }, { on := 12, ground := Go.Ground.chain }, { on := 0, ground := Go.Ground.phase }, { on := 1, ground := Go.Ground.phase }, { on := 2, ground := Go.Ground.phase }, { on := 3, ground := Go.Ground.phase }, { on := 4, ground := Go.Ground.phase }, { on := 5, ground := Go.Ground.phase }, { on := 6, ground := Go.Ground.phase }, { on := 7, ground := Go.Ground.phase }, { on := 8, ground := Go.Ground.phase }, { on := 9, ground := Go.Ground.phase }, { on := 10, ground := Go.Ground.phase }, { on := 11, ground := Go.Ground.phase }, { on := 12, ground := Go.Ground.phase }], guard := none }) (v := ?vt3014) rfl (by kernel_rfl) (by kernel_rfl) (by kernel_rfl) (fun _ _ _ h => h) (Or.inl ⟨by rfl, ?ht3014⟩) hH3013 ?_
  case ht3014 => intro w hSw; obtain ⟨s1, s2⟩ := hSw; go_simp; try with_reducible rfl
  simp only [Act.put, List.setIfInBounds_toArray, List.set_cons_zero, List.set_cons_succ]
  refine wpAnyH_done (by kernel_rfl) ?_ _
  clear C1 C2 C3 C4 C5 HOR KE hHeld
  by_cases hz : er_ = 0
  · subst hz
    obtain ⟨z1, z2, z3, z4, z5⟩ := hrEr_z.1 HER.out
    have HRES : Hid (hrRes b s l wow = hrL (rdL b l) (rdL s l) wow.toNat l.length) := Lib.hid (by unfold hrRes; rw [if_pos HER.out])
    have HS1 := Lib.hid (ckTip_ok z1)
    have HS2 := Lib.hid (ckTip_ok z2)
    have HE := Lib.hid (ckG_edg z3).2
    have hn4 : n ≤ 4096 := by have := HN.out; have := (ckG_edg z3).1; omega
    obtain ⟨far, rfl⟩ : ∃ far : Nat, wow = far := ⟨wow.toNat, by have := ckWo_z.1 z5; omega⟩
    have hfar : far ≤ 256 := by have := ckWo_z.1 z5; omega
    have HR1 : Hid (Edg (rdL b l)) := Lib.hid (rdL_edg HS1.out HE.out)
    have HR2 : Hid (Edg (rdL s l)) := Lib.hid (rdL_edg HS2.out HE.out)
    have hN := HN.out
    rw [Int.toNat_natCast, ← hN] at HRES
    have hq1 : ofW n (er b n (innW l)) (er b n (outW l)) = rdL b l := by rw [hN]; rfl
    have hq2 : ofW n (er s n (innW l)) (er s n (outW l)) = rdL s l := by rw [hN]; rfl
    have HQ1 := Lib.hid hq1
    have HQ2 := Lib.hid hq2
    clear z1 z2 z3 z4 z5 hN hq1 hq2 HER
    obtain ⟨i0, hi0, hy0, hy1, hy2⟩ := info_parts info_hd
    have HI0 := Lib.hid hi0
    have HZ0 := Lib.hid hy0
    have HZ1 := Lib.hid hy1
    have HZ2 := Lib.hid hy2
    have hmk := fun (W : World) => run_make_rowN (P := Try.prog) 38 44 i0 _ Try.underlying38 hi0 hy0 .i64 .i64 0 n (Nat.zero_le _) (by rw [hy2]; omega) (by omega) W
    rw [hy1] at hmk
    simp only [Int.natCast_zero] at hmk
    clear hi0 hy0 hy1 hy2
    go_wp2_with fail
    have CALL := stylusOf_any w.heap.size Af nf cf b w8 (HL.out.below HB.out (Nat.le_refl _)) HB.out.size HS1.out
    refine CALL.mono ?_
    rintro e w9 ⟨Ag1, ng1, cg1, rfl, hg, hb⟩
    clear CALL
    have hsz9 := hb.size
    replace K1 := Lib.hid (K1.out.below hb K1.out.lt)
    replace K2 := Lib.hid (K2.out.below hb K2.out.lt)
    replace HB := Lib.hid (HB.out.trans (hb.mono (by omega)))
    have HG1 := Lib.hid hg
    clear hg
    clear hb
    have t1 := K1.out.one.1
    have t2 := K2.out.one.1
    go_wp2_with fail
    have CALL := traceRead_any w9.heap.size b Ag1 A ng1 cg1 n c l w9 HG1.out ((H.out.below HB.out (Nat.le_refl _)).more HB.out.size) (Nat.le_refl _) HS1.out HE.out hn4
    rw [HQ1.out] at CALL
    refine CALL.mono ?_
    rintro e w10 ⟨AX1, nX1, kX1, rfl, hr, hcX1, hb⟩
    clear CALL
    have hsz10 := hb.size
    replace K1 := Lib.hid (K1.out.below hb K1.out.lt)
    replace K2 := Lib.hid (K2.out.below hb K2.out.lt)
    replace HB := Lib.hid (HB.out.trans (hb.mono (by omega)))
    have HX1 := Lib.hid hr
    clear hr HG1 hcX1
    clear hb
    have t1 := K1.out.one.1
    have t2 := K2.out.one.1
    go_wp2_with fail
    have CALL := stylusOf_any w.heap.size A' n' c' s w10 (HS.out.below HB.out (Nat.le_refl _)) HB.out.size HS2.out
    refine CALL.mono ?_
    rintro e w11 ⟨Ag2, ng2, cg2, rfl, hg, hb⟩
    clear CALL
    have hsz11 := hb.size
    replace HX1 := Lib.hid (HX1.out.below hb (by omega))
    replace K1 := Lib.hid (K1.out.below hb K1.out.lt)
    replace K2 := Lib.hid (K2.out.below hb K2.out.lt)
    replace HB := Lib.hid (HB.out.trans (hb.mono (by omega)))
    have HG2 := Lib.hid hg
    clear hg
    clear hb
    have t1 := K1.out.one.1
    have t2 := K2.out.one.1
    go_wp2_with fail
    have CALL := traceRead_any w11.heap.size s Ag2 A ng2 cg2 n c l w11 HG2.out ((H.out.below HB.out (Nat.le_refl _)).more HB.out.size) (Nat.le_refl _) HS2.out HE.out hn4
    rw [HQ2.out] at CALL
    refine CALL.mono ?_
    rintro e w12 ⟨AX2, nX2, kX2, rfl, hr, hcX2, hb⟩
    clear CALL
    have hsz12 := hb.size
    replace HX1 := Lib.hid (HX1.out.below hb (by omega))
    replace K1 := Lib.hid (K1.out.below hb K1.out.lt)
    replace K2 := Lib.hid (K2.out.below hb K2.out.lt)
    replace HB := Lib.hid (HB.out.trans (hb.mono (by omega)))
    have HX2 := Lib.hid hr
    clear hr HG2 hcX2
    clear hb
    have t1 := K1.out.one.1
    have t2 := K2.out.one.1
    have hnx1 : nX1 = n := by have := HX1.out.1; rw [rdL_len] at this; have := HN.out; omega
    have hnx2 : nX2 = n := by have := HX2.out.1; rw [rdL_len] at this; have := HN.out; omega
    subst nX1
    subst nX2
    replace HX1 := Lib.hid (HX1.out.more (show _ ≤ w12.heap.size by omega))
    obtain ⟨N, hNN⟩ : ∃ N, rdL b l = N := ⟨_, rfl⟩
    obtain ⟨L, hLL⟩ : ∃ L, rdL s l = L := ⟨_, rfl⟩
    rw [hNN] at HX1 HR1
    rw [hLL] at HX2 HR2
    rw [hNN, hLL] at HRES
    clear hNN hLL t1 t2 K1 K2 hH3012 hH3013 HQ1 HQ2 HS1 HS2 HE
    go_wp2_with fail
    have hown : (w12.alloc (.cells (madeCells #[.int .i64 0, .int .i64 0, .int .i64 0, .int .i64 0] (n * 4)) 44)).ownsRow w12.heap.size 44 4 (.slice (some ⟨w12.heap.size, 0, none⟩) 0 n) 0 [] :=
      World.ownsRow_made (base := w12.heap.size) (e := 44) (size := 4) w12 (madeCells (Value.agg #[Value.int IntKind.i64 0, Value.int IntKind.i64 0, Value.int IntKind.i64 0, Value.int IntKind.i64 0]).cells (n * 4)) n (Nat.le_refl _) (by unfold maxLen; omega) (by rw [size_madeCells])
    obtain ⟨W, hW⟩ : ∃ W, w12.alloc (.cells (madeCells #[.int .i64 0, .int .i64 0, .int .i64 0, .int .i64 0] (n * 4)) 44) = W := ⟨_, rfl⟩
    have hbw : Below w12.heap.size w12 W := by rw [← hW]; exact (Below.refl _ _).alloc (Nat.le_refl _) _
    rw [hW] at hown ⊢
    have HO := Lib.hid hown
    have H12 := Lib.hid hbw
    clear hown hmk hW hbw
    go_wp2_with fail
    go_loopw [13, 14, 52] (fun sv _ z wr => ∃ j : Nat, j ≤ n ∧ z = .int .i64 j ∧ Hid (wr.ownsRow w12.heap.size 44 4 sv j (hdCells ((hrL N L far n).take j))) ∧ Hid (Below w12.heap.size w12 wr)) (fun _ _ z wr => n - (intOf z).toNat)
    case atStart => exact ⟨0, Nat.zero_le _, rfl, HO, H12⟩
    case round =>
      clear HO H12
      obtain ⟨j, hj, rfl, HO, H12⟩ := hrel
      by_cases hlt : j < n
      · have HSN := Lib.hid (hrL_take (N := N) (L := L) (far := far) hlt)
        have hss := H12.out.size
        go_wp2_with fail
        refine (around_any j far n wr).mono ?_
        rintro e W2 ⟨rfl, hW2⟩
        have hb2 : Below wr.heap.size wr W2 := by rw [← hW2]; exact (((Below.refl _ _).alloc (Nat.le_refl _) _).alloc (by simp) _).alloc (by simp; omega) _
        have q1 : Blk W2 wr.heap.size 3 #[.int .i64 j] := by rw [← hW2]; exact ((Blk.new _ _ _).alloc _).alloc _
        have q2 : Blk W2 (wr.heap.size + 1) 3 #[.int .i64 far] := by rw [← hW2]; exact (blk_al (by simp)).alloc _
        have q3 : Blk W2 (wr.heap.size + 1 + 1) 3 #[.int .i64 n] := by rw [← hW2]; exact blk_al (by simp)
        have SI : SeqIs W2 95 #[.pointer (some ⟨wr.heap.size, 0, none⟩), .pointer (some ⟨wr.heap.size + 1, 0, none⟩), .pointer (some ⟨wr.heap.size + 1 + 1, 0, none⟩)] (nbr j far n) :=
          ⟨enters_of Try.func95 (by kernel_rfl) rfl, fun gg X hX hg => around1_all (12 - 1) _ _ _ j far n gg X (by omega) (q1.below hX q1.lt) (q2.below hX q2.lt) (q3.below hX q3.lt)
            (fun h => by have := hg _ h; have := q1.lt; omega) (fun h => by have := hg _ h; have := q2.lt; omega) (fun h => by have := hg _ h; have := q3.lt; omega) (by omega) (by omega) (by omega)⟩
        replace HO := Lib.hid (own_below HO.out hb2)
        replace H12 := Lib.hid (H12.out.trans (hb2.mono hss))
        have CALL := heard_any w12.heap.size _ _ AX1 AX2 n kX1 kX2 j far N L W2 (HX1.out.below H12.out (Nat.le_refl _)) (HX2.out.below H12.out (Nat.le_refl _)) H12.out.size SI hlt HR1.out HR2.out
        obtain ⟨x, hx⟩ : ∃ x, hdL N L (nbr j far n) = x := ⟨_, rfl⟩
        rw [hx] at CALL HSN
        simp only [Hrd.val] at CALL
        clear hx SI q1 q2 q3 hW2 hb2 hss
        go_wp2_with fail
        refine CALL.mono ?_
        rintro e w3 ⟨rfl, hb1⟩
        clear CALL
        have hs1 := hb1.size
        replace HO := Lib.hid (own_below HO.out hb1)
        replace H12 := Lib.hid (H12.out.trans (hb1.mono H12.out.size))
        have hs2 := H12.out.size
        clear hb1
        go_wp2_with (at_builtin; refine wpList_append_any _ rfl (.tmp 55) (.tmp 66) _ rfl w12.heap.size 44 i0 _ 4 32 Try.underlying38 HI0.out HZ0.out HZ1.out HZ2.out rfl (by omega) _ j _ rfl (HO.out.alloc _) (w3.heap.size + 1) (some ⟨w3.heap.size, 0, none⟩) 1 1 [.int .i64 x.a, .int .i64 x.b, .int .i64 x.c, .int .i64 x.d] rfl (reads_cells (blk_al rfl) (Nat.lt_succ_self _) (by rfl) (by rfl)) (by intro u hu; simp at hu; rcases hu with rfl | rfl | rfl | rfl <;> rfl) (by unfold maxLen; omega) (by omega) (by simp; omega) ?_)
        intro v' w4 hown' hgrow _
        have HO4 : Hid (w4.ownsRow w12.heap.size 44 4 v' (j + 1) (hdCells ((hrL N L far n).take (j + 1)))) := Lib.hid (by rw [HSN.out, hdCells_snoc]; exact hown')
        have HB4 := Lib.hid ((H12.out.alloc H12.out.size (.cells #[.int .i64 x.a, .int .i64 x.b, .int .i64 x.c, .int .i64 x.d] 44)).grown hgrow (by simp; omega) (fun g hg => by have := (HO.out.lt g hg).1; omega))
        clear hown' hgrow HO H12
        go_wp2
        go_roundw
        case rel => exact ⟨j + 1, by omega, by go_num, HO4, HB4⟩
        case measure => simp [intOf]; omega
      · obtain rfl : j = n := by omega
        obtain ⟨A9, c9, hv, hr, hc⟩ := own_readsC HO.out
        subst hv
        rw [List.take_of_length_le (by rw [hrL_len]; exact Nat.le_refl _)] at hr
        have HRD := Lib.hid hr
        clear hr
        go_wp2
        go_ret2
        refine ⟨A9, j, c9, rfl, ?_, hc, HB.out.trans (H12.out.mono HB.out.size)⟩
        rw [HRES.out]
        exact ⟨(hrL_len _ _ _ _).symm, HRD.out⟩
  · have q1 : (er_ != 0) = true := by rw [bne_iff_ne]; exact hz
    have HRES : Hid (hrRes b s l wow = []) := Lib.hid (by unfold hrRes; rw [if_neg (by rw [HER.out]; exact hz)])
    have q2 : (er_ == 0) = false := beq_eq_false_iff_ne.2 hz
    clear hz
    go_wp2
    go_ret2
    refine ⟨none, 0, 0, rfl, ?_, Nat.le_refl _, HB.out⟩
    rw [HRES.out]
    exact ⟨rfl, by simp [hdCells], fun h => absurd h (by omega)⟩
end Go.Proofs.Ytjdnpgilinfkgaa
