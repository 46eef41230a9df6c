/-
  The walk of TakeSplits.
-/
import Derived.Test.YtbcahkklhdnboaaC4
import Derived.Test.YtbcahkklhdnboaaG5
import Derived.Test.YtbcahkklhdnboaaS4
import Derived.Test.YtbcahkklhdnboaaS5
namespace Go.Proofs.Ytbcahkklhdnboaa
open Go.RowKit

theorem sp_len (l : List TV) (ps : List Prt) (t : Int) : (spF l ps t).length ≤ ps.length ∧ (spS l ps t).length ≤ ps.length := by
  unfold spF spS
  constructor
  · split
    · rw [List.length_take]; omega
    · simp
  · split
    · rw [adj_length, List.length_drop]; omega
    · simp

set_option maxRecDepth 100000 in
set_option maxHeartbeats 4000000 in
theorem splitsLaw_any (A A' : Option Addr) (n c n' c' : Nat) (l : List TV) (ps : List Prt) (t : Int) (w : World) (h0 : RT w w.heap.size A n l) (g0 : RP w w.heap.size A' n' ps)
    (hl : n ≤ 9223372036854775807) (hl' : n' ≤ 9223372036854775807) (hc' : n' ≤ c') (hs : TSm l) (hi : I64t l) :
    Calls Try.prog 5 #[.slice A n c, .slice A' n' c', .int .i64 t] w fun e w' => e = .returned (.bool true) ∧ Below w.heap.size w w' := by
  have H := Lib.hid h0
  have G := Lib.hid g0
  have HS := Lib.hid hs
  have HI := Lib.hid hi
  have h0g : n' = ps.length := g0.1
  clear h0 g0 hs hi
  obtain ⟨er, her⟩ : ∃ er, spEr l ps t = er := ⟨_, rfl⟩
  obtain ⟨F, hF⟩ : ∃ F, spF l ps t = F := ⟨_, rfl⟩
  obtain ⟨S, hS⟩ : ∃ S, spS l ps t = S := ⟨_, rfl⟩
  have HA := Lib.hid (fun W (h : RT W W.heap.size A n l) (g : RP W W.heap.size A' n' ps) => split_any _ A A' n c n' c' l ps t W h g (Nat.le_refl _) hl hl' hc' HS.out)
  have HR := Lib.hid (fun W (h : RT W W.heap.size A n l) (g : RP W W.heap.size A' n' ps) => refSplit_any _ A A' n c n' c' l ps t W h g (Nat.le_refl _) hl hl' HS.out HI.out)
  have hlen := sp_len l ps t
  rw [her, hF, hS] at HA HR
  rw [hF, hS, ← h0g] at hlen
  have HLF : Hid (F.length ≤ 9223372036854775807 ∧ S.length ≤ 9223372036854775807) := Lib.hid (by omega)
  clear her hF hS hlen h0g
  go_enter Try.func5, Try.ntmps5
  go_wp2_with fail
  refine (great_any _ _ _ _ _ _ _ l _ H.out (Nat.le_refl _) hl hl' HS.out).mono ?_
  rintro e w1 ⟨b, rfl, hb1⟩
  have HB1 := Lib.hid hb1
  clear hb1
  cases b
  · go_wp2_with fail
    refine (HA.out _ ((H.out.below HB1.out (Nat.le_refl _)).more HB1.out.size) ((G.out.below HB1.out (Nat.le_refl _)).more HB1.out.size)).mono ?_
    rintro e w2 ⟨A1, c1, A2, c2, rfl, hr1, hr2, hb2⟩
    have HB2 := Lib.hid (HB1.out.trans (hb2.mono HB1.out.size))
    have R1 := Lib.hid hr1
    have R2 := Lib.hid hr2
    clear hb2 hr1 hr2
    go_wp2_with fail
    refine (HR.out _ ((H.out.below HB2.out (Nat.le_refl _)).more HB2.out.size) ((G.out.below HB2.out (Nat.le_refl _)).more HB2.out.size)).mono ?_
    rintro e w3 ⟨A3, c3, A4, c4, rfl, hr3, hr4, hb3⟩
    have HB3 := Lib.hid (HB2.out.trans (hb3.mono HB2.out.size))
    have R1 := Lib.hid ((R1.out.below hb3 (Nat.le_refl _)).more hb3.size)
    have R2 := Lib.hid ((R2.out.below hb3 (Nat.le_refl _)).more hb3.size)
    have R3 := Lib.hid hr3
    have R4 := Lib.hid hr4
    clear hb3 hr3 hr4
    go_wp2_with fail
    refine (parts_same _ _ _ _ _ _ _ F _ R1.out R3.out (Nat.le_refl _) HLF.out.1).mono ?_
    rintro e w4 ⟨rfl, hb4⟩
    have R2 := Lib.hid ((R2.out.below hb4 (Nat.le_refl _)).more hb4.size)
    have R4 := Lib.hid ((R4.out.below hb4 (Nat.le_refl _)).more hb4.size)
    have HB4 := Lib.hid (HB3.out.trans (hb4.mono HB3.out.size))
    clear hb4
    go_wp2_with fail
    refine (parts_same _ _ _ _ _ _ _ S _ R2.out R4.out (Nat.le_refl _) HLF.out.2).mono ?_
    rintro e w5 ⟨rfl, hb5⟩
    have HB5 := Lib.hid (HB4.out.trans (hb5.mono HB4.out.size))
    clear hb5
    go_wp2_with fail
    refine (Works_any _).mono ?_
    rintro e w6 ⟨rfl, hb6⟩
    go_wp2
    go_ret
    exact ⟨rfl, HB5.out.trans (hb6.mono HB5.out.size)⟩
  · go_wp2_with fail
    refine (Works_any _).mono ?_
    rintro e w2 ⟨rfl, hb2⟩
    go_wp2
    go_ret
    exact ⟨rfl, HB1.out.trans (hb2.mono HB1.out.size)⟩
end Go.Proofs.Ytbcahkklhdnboaa
