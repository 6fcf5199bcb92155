/-
  Places of keys: what a section and a key are, for the specification and for the program. Conditions: at most 1048576 bytes.
-/
import Derived.Test.YtkeiaenacpmilaaName
import Derived.Test.YtkeiaenacpmilaaMem
namespace Go.Proofs.Ytkeiaenacpmilaa
open Go.RowKit

/-- what a section is -/
def vsec (s : ByteArray) : Bool := (s.toList == []) || vname s
def vplace (s k : ByteArray) : Bool := vsec s && vname k
theorem vsec_nil {s : ByteArray} (h : s.toList = []) : vsec s = true := by simp [vsec, h]
theorem vsec_ne {s : ByteArray} (h : ¬ s.toList = []) : vsec s = vname s := by simp [vsec, h]

set_option maxHeartbeats 1000000 in
theorem specPlace_any (s k : ByteArray) (w : World) (hs : s.size ≤ 1048576) (hk : k.size ≤ 1048576) :
    Calls Try.prog 9 #[.string s, .string k] w fun e w' => e = .returned (.bool (vplace s k)) ∧ w = w' := by
  have HS := Lib.hid (fun w => specName_any s w hs)
  have HK := Lib.hid (fun w => specName_any k w hk)
  by_cases hl : s.toList = []
  · have hl2 : s.toList.isEmpty = true := by simp [hl]
    have HV : Hid (vplace s k = vname k) := by unfold Hid vplace; rw [vsec_nil hl]; rfl
    go_enter Try.func9, Try.ntmps9
    go_wp2_with (go_at_call 8; refine (HK.out _).mono ?_; rintro e w' ⟨rfl, rfl⟩)
    go_ret
    exact ⟨ret_bool HV.out.symm, rfl⟩
  · have hl2 : s.toList.isEmpty = false := by simp [hl]
    have HV : Hid (vplace s k = (vname s && vname k)) := by unfold Hid vplace; rw [vsec_ne hl]
    by_cases hv : vname s = true
    · rw [hv] at HS HV
      clear hv
      go_enter Try.func9, Try.ntmps9
      go_wp2_with fail
      refine (HS.out _).mono ?_
      rintro e w' ⟨rfl, rfl⟩
      go_wp2_with fail
      refine (HK.out _).mono ?_
      rintro e w' ⟨rfl, rfl⟩
      go_wp2
      go_ret
      exact ⟨ret_bool HV.out.symm, rfl⟩
    · have hv' : vname s = false := by simpa using hv
      rw [hv'] at HS HV
      clear hv hv'
      go_enter Try.func9, Try.ntmps9
      go_wp2_with fail
      refine (HS.out _).mono ?_
      rintro e w' ⟨rfl, rfl⟩
      go_wp2
      go_ret
      exact ⟨ret_bool HV.out.symm, rfl⟩

set_option maxHeartbeats 1000000 in
theorem implSec_any (s : ByteArray) (w : World) (hs : s.size ≤ 1048576) :
    Calls Try.prog 11 #[.string s] w fun e w' => e = .returned (.bool (vsec s)) ∧ Grows w w' := by
  have HS := Lib.hid (fun w => implName_any s w hs)
  by_cases hl : s.toList = []
  · have hl2 : s.toList.isEmpty = true := by simp [hl]
    have HV : Hid (vsec s = true) := vsec_nil hl
    go_enter Try.func11, Try.ntmps11
    go_wp2
    go_ret
    exact ⟨ret_bool HV.out.symm, Grows.refl _⟩
  · have hl2 : s.toList.isEmpty = false := by simp [hl]
    have HV : Hid (vsec s = vname s) := vsec_ne hl
    go_enter Try.func11, Try.ntmps11
    go_wp2_with fail
    refine (HS.out _).mono ?_
    rintro e w1 ⟨rfl, g1⟩
    go_wp2
    go_ret
    exact ⟨ret_bool HV.out.symm, g1⟩

set_option maxHeartbeats 1000000 in
theorem implPlace_any (s k : ByteArray) (w : World) (hs : s.size ≤ 1048576) (hk : k.size ≤ 1048576) :
    Calls Try.prog 12 #[.agg #[.string s, .string k]] w fun e w' => e = .returned (.bool (vplace s k)) ∧ Grows w w' := by
  have HS := Lib.hid (fun w => implSec_any s w hs)
  have HK := Lib.hid (fun w => implName_any k w hk)
  have HV : Hid (vplace s k = (vsec s && vname k)) := rfl
  by_cases hv : vsec s = true
  · rw [hv] at HS HV
    clear hv
    go_enter Try.func12, Try.ntmps12
    go_wp2_with fail
    refine (HS.out _).mono ?_
    rintro e w1 ⟨rfl, g1⟩
    have G1 : Hid (Grows (w.alloc (.cells #[.string s, .string k] 32)) w1) := g1
    have c1 : w1.cell? ⟨w.heap.size, 1, none⟩ = some (.string k) := (g1.cell (p := ⟨w.heap.size, 1, none⟩) (by simp)).trans (by simp)
    clear g1
    go_wp2_with fail
    refine (HK.out _).mono ?_
    rintro e w2 ⟨rfl, g2⟩
    go_wp2
    go_ret
    exact ⟨ret_bool HV.out.symm, ((Grows.refl _).alloc _).trans (G1.out.trans g2)⟩
  · have hv' : vsec s = false := by simpa using hv
    rw [hv'] at HS HV
    clear hv hv'
    go_enter Try.func12, Try.ntmps12
    go_wp2_with fail
    refine (HS.out _).mono ?_
    rintro e w1 ⟨rfl, g1⟩
    go_wp2
    go_ret
    exact ⟨ret_bool HV.out.symm, ((Grows.refl _).alloc _).trans g1⟩

end Go.Proofs.Ytkeiaenacpmilaa
