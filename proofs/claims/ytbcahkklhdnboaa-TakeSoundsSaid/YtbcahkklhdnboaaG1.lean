/-
  Contract of the document's starts.
-/
import Derived.Test.YtbcahkklhdnboaaD1
import Derived.Test.YtbcahkklhdnboaaB6
namespace Go.Proofs.Ytbcahkklhdnboaa
open Go.RowKit

/-- When the placed parts begin. -/
def stCells (R : List Pl) : List Value := R.map fun q => .int .i64 q.st
theorem stCells_at (R : List Pl) (k : Nat) (h : k < R.length) : (stCells R)[k]? = some (.int .i64 R[k].st) := by simp [stCells, h]
def StPost (w : World) (R : List Pl) (e : Ending) (w' : World) : Prop :=
  ∃ A c, e = .returned (.tuple #[.slice A R.length c, .int .i64 (lenP R)]) ∧ Reads w' w'.heap.size 1 A R.length (stCells R) ∧ Below w.heap.size w w'
theorem info_int : (Try.prog.info? 3).map (fun i => (i.zero, i.size, i.bytes)) = some (some (.int .i64 0), 1, 8) := by kernel_rfl
theorem lenP_snoc (out : List Pl) (q : Pl) : lenP (out ++ [q]) = q.end_ := by
  unfold lenP
  rw [List.length_append, List.length_singleton, Nat.add_sub_cancel, List.getElem?_append_right (Nat.le_refl _), Nat.sub_self]; rfl

set_option maxRecDepth 100000 in
set_option maxHeartbeats 4000000 in
theorem refStarts_any (B : Nat) (A : Option Addr) (n c : Nat) (ps : List Prt) (w : World) (h0 : RP w B A n ps) (hB : B ≤ w.heap.size) (h32 : ps.length ≤ 32) (hp : ∀ p ∈ ps, PrOk p) :
    Calls Try.prog 37 #[.slice A n c] w (StPost w (placeL ps 0 0)) := by
  have H := Lib.hid (h0.more hB)
  obtain ⟨hn, -⟩ := h0
  have HN := Lib.hid hn
  have hn32 : n ≤ 32 := by omega
  have HP := Lib.hid hp
  clear hn hB h32 hp
  obtain ⟨R, hR⟩ : ∃ R, placeL ps 0 0 = R := ⟨_, rfl⟩
  rw [hR]
  have HR := Lib.hid hR
  clear hR
  obtain ⟨i0, hi0, hz0, hz1, hz2⟩ := info_parts info_int
  have HI0 := Lib.hid hi0
  have HZ0 := Lib.hid hz0
  have HZ1 := Lib.hid hz1
  have HZ2 := Lib.hid hz2
  clear hi0 hz0 hz1 hz2
  go_enter Try.func37, Try.ntmps37
  go_wp2
  go_loopw [4, 5, 6] (fun v e i wr => ∃ (k : Nat) (out : List Pl) (en : Int), k ≤ n ∧ i = .int .i64 k ∧ e = .int .i64 en ∧ Hid (out.length = k) ∧ Hid (lenP out = en) ∧ -8192 * (k : Int) ≤ en ∧ en ≤ 8192 * (k : Int) ∧
      Hid (wr.ownsRow w.heap.size 3 1 v out.length (stCells out)) ∧ Below w.heap.size w wr ∧ Hid (out ++ placeL (ps.drop k) k en = R)) (fun _ _ i wr => n - (intOf i).toNat)
  case atStart =>
    exact ⟨0, [], 0, Nat.zero_le _, rfl, rfl, Lib.hid rfl, Lib.hid rfl, by omega, by omega, Lib.hid (World.ownsRow_nil _ _ _ _), Below.refl _ _, HR⟩
  case round =>
    clear HR
    obtain ⟨k, out, en, hk, rfl, rfl, HOUT, HLEN, he1, he2, HO, hb, HR⟩ := hrel
    by_cases hlt : k < n
    · obtain ⟨ad, hA, hbl, p0, p1, p2, p3, p4, p5, p6⟩ := (H.out.below hb (Nat.le_refl _)).at_ (k := k) (by have := HN.out; omega)
      obtain rfl := hA
      have hok := HP.out _ (List.getElem_mem (show k < ps.length by have := HN.out; omega))
      have hd : ps.drop k = ps[k]'(by have := HN.out; omega) :: ps.drop (k + 1) := List.drop_eq_getElem_cons (by have := HN.out; omega)
      obtain ⟨p, hpp⟩ : ∃ p, p = ps[k]'(by have := HN.out; omega) := ⟨_, rfl⟩
      rw [← hpp] at p0 p1 p2 p3 p4 p5 p6 hok hd
      have HD := Lib.hid hd
      have HPP := Lib.hid hpp
      clear hpp hd
      obtain ⟨o1, o2, o3, o4, o5⟩ := hok
      have he3 : -262144 ≤ en ∧ en ≤ 262144 := by omega
      obtain ⟨e3, e4⟩ := he3
      have zz := hb.size
      have HB := Lib.hid hb
      clear hb
      have hlen : out.length ≤ 32 := by have := HOUT.out; omega
      go_wp2_with (at_builtin; refine wpList_append_own _ rfl (.tmp 13) (.tmp 21) _ rfl w.heap.size 3 i0 _ 1 8 Try.underlying26 HI0.out HZ0.out HZ1.out HZ2.out rfl (by omega) _ out.length (stCells out) rfl (HO.out.alloc _) ⟨wr.heap.size, 0, none⟩ 1 1 [.int .i64 (en + p.gp)] rfl rfl (nine_new _ _ _) ?c1 ?c2 ?c3 ?c4 ?_)
      case c1 => intro u hu; simp at hu; subst hu; rfl
      case c2 => simp only [maxLen]; omega
      case c3 => omega
      case c4 => first | omega | (simp; omega)
      intro v' w4 hown' hgrow _
      have HG : Hid (Below w.heap.size w w4) := Lib.hid ((HB.out.alloc zz _).grown hgrow (by simp; omega) fun j hj => (HO.out.lt j hj).1)
      have hap : (stCells out ++ [.int .i64 (en + p.gp)]) = stCells (out ++ [⟨p, k, en + p.gp⟩]) := by simp [stCells]
      rw [hap] at hown'
      clear hgrow hap
      obtain ⟨A', c', rfl, hre⟩ := own_reads hown'
      have HO' := Lib.hid hown'
      obtain ⟨ao, hao, hbo, hco⟩ := hre.2 (by omega)
      obtain rfl := hao
      have y0 := hco k _ (by rw [stCells_at _ k (by simp [HOUT.out])])
      rw [show (out ++ [(⟨p, k, en + p.gp⟩ : Pl)])[k]'(by simp [HOUT.out]) = ⟨p, k, en + p.gp⟩ from by simp [HOUT.out]] at y0
      clear hown' hre hco
      obtain ⟨ad', hA', _, p0, p1, p2, p3, p4, p5, p6⟩ := (H.out.below HG.out (Nat.le_refl _)).at_ (k := k) (by have := HN.out; omega)
      cases hA'
      rw [← HPP.out] at p0 p1 p2 p3 p4 p5 p6
      have hboW : ao.block < w4.heap.size := hbo
      have hbao : (ao.add k).block < w4.heap.size := by rw [block_of_add]; exact hbo
      have LL := Lib.hid (fun W => refLong_any p W (by omega) (by omega) (by omega) (by omega))
      have k0 : (0 : Int) ≤ (k : Int) := by omega
      have k1 : (k : Int) < (out.length : Int) + 1 := by have := HOUT.out; omega
      have hk1 : k < out.length + 1 := by have := HOUT.out; omega
      go_wp2
      go_region_with (go_at_call 51; refine (LL.out _).mono ?_; rintro e w5 ⟨rfl, hb5⟩; have y1 := (hb5.cell (p := ao.add k) hbao).trans y0; have HB5 := Lib.hid hb5; clear hb5)
      all_goals go_wp2
      all_goals
        refine ⟨⟨k + 1, out ++ [⟨p, k, en + p.gp⟩], en + p.gp + (p.to - p.fr), by omega, by go_num, rfl, Lib.hid (by simp [HOUT.out]), Lib.hid (lenP_snoc _ _), by omega, by omega, Lib.hid ?_, ?_, Lib.hid ?_⟩, by simp [intOf]; omega⟩
        · have := own_below (show w4.drew.ownsRow _ _ _ _ _ _ from HO'.out) HB5.out
          simpa using this
        · exact HG.out.drew.trans (HB5.out.mono HG.out.size)
        · rw [← HR.out, HD.out]; simp [placeL]
    · go_wp2
      go_ret2
      have hfin : out = R := by rw [← HR.out, List.drop_eq_nil_of_le (by have := HN.out; omega)]; simp [placeL]
      subst hfin
      obtain ⟨A', c', rfl, hre⟩ := own_reads HO.out
      exact ⟨A', c', by rw [HLEN.out]; rfl, hre, hb⟩
end Go.Proofs.Ytbcahkklhdnboaa
