/-
  The value of a key: GetValue of the program and of the specification. Conditions: at most 1048576 bytes in all.
-/
import Derived.Test.YtdedidcjbocicaaWhere
namespace Go.Proofs.Ytdedidcjbocicaa
open Go.RowKit

/-- the value of a key of a file -/
def getV (ls : List Ln) (s key : ByteArray) : ByteArray := if whereOf ls s key < 0 then ⟨#[]⟩ else ls[(whereOf ls s key).toNat]!.va
/-- a key of a file is there -/
def getB (ls : List Ln) (s key : ByteArray) : Bool := !decide (whereOf ls s key < 0)
theorem get_no {ls : List Ln} {s key : ByteArray} (h : whereOf ls s key < 0) : getV ls s key = ⟨#[]⟩ ∧ getB ls s key = false := by
  unfold getV getB
  rw [if_pos h]
  exact ⟨rfl, by simp [h]⟩
theorem get_yes {ls : List Ln} {s key : ByteArray} {k : Nat} (h : whereOf ls s key = k) (hk : k < ls.length) : getV ls s key = ls[k].va ∧ getB ls s key = true := by
  unfold getV getB
  rw [h, if_neg (by omega), Int.toNat_natCast, get_bang hk]
  exact ⟨rfl, by simp⟩
theorem where_lt (ls : List Ln) (s key : ByteArray) : whereOf ls s key < ls.length ∧ -1 ≤ whereOf ls s key := by
  unfold whereOf
  split
  · exact lastP_lt _ _ _ _
  · omega

theorem ret_get {a b : ByteArray} {p q : Bool} (h : a = b) (h2 : p = q) : Ending.returned (.tuple #[.string a, .bool p]) = .returned (.tuple #[.string b, .bool q]) := by rw [h, h2]

set_option maxRecDepth 100000 in
set_option maxHeartbeats 2000000 in
theorem implGet_any (A : Option Addr) (c : Nat) (ls : List Ln) (s key : ByteArray) (w : World) (hf : AllFit ls) (hA : LnsAt w A ls) :
    Calls Try.prog 26 #[.agg #[.slice A ls.length c], .string s, .string key] w fun e w' => e = .returned (.tuple #[.string (getV ls s key), .bool (getB ls s key)]) ∧ Grows w w' := by
  have HF := Lib.hid (fun w1 (g : Grows w w1) => implWhere_any A c ls s key w1 hf (hA.keep g))
  have HA := Lib.hid hA
  have hn := hf.1
  have hw := where_lt ls s key
  clear hA hf
  by_cases h0 : whereOf ls s key < 0
  · obtain ⟨e1, e2⟩ := get_no h0
    have HV := Lib.hid e1
    have HB := Lib.hid e2
    have hm : whereOf ls s key = -1 := by omega
    rw [hm] at HF
    clear e1 e2 hm hw h0
    go_enter Try.func26, Try.ntmps26
    go_wp2_with fail
    refine (HF.out _ ((Grows.refl _).alloc _)).mono ?_
    rintro e w1 ⟨rfl, g1⟩
    go_wp2
    go_ret2
    exact ⟨ret_get HV.out.symm HB.out.symm, ((Grows.refl _).alloc _).trans g1⟩
  · obtain ⟨k, hk⟩ : ∃ k : Nat, whereOf ls s key = k := ⟨(whereOf ls s key).toNat, by omega⟩
    have hk2 : k < ls.length := by omega
    obtain ⟨e1, e2⟩ := get_yes hk hk2
    have HV := Lib.hid e1
    have HB := Lib.hid e2
    rw [hk] at HF
    clear e1 e2 hw h0 hk
    obtain ⟨b, o, rfl, hb, hc⟩ := HA.out (by omega)
    have hat := hc k hk2
    obtain ⟨l, hl⟩ : ∃ l, ls[k] = l := ⟨_, rfl⟩
    rw [hl] at hat HV
    clear hl hc
    obtain ⟨n, hnn⟩ : ∃ n, ls.length = n := ⟨_, rfl⟩
    rw [hnn] at hn hk2 HF
    rw [hnn]
    clear hnn
    have HAT := Lib.hid hat
    clear hat
    go_enter Try.func26, Try.ntmps26
    go_wp2_with fail
    refine (HF.out _ ((Grows.refl _).alloc _)).mono ?_
    rintro e w1 ⟨rfl, g1⟩
    have hb0 : w1.cell? ⟨w.heap.size, 0, none⟩ = some (.slice (some ⟨b, o, none⟩) n c) := (g1.cell (p := ⟨w.heap.size, 0, none⟩) (by simp)).trans (by simp)
    obtain ⟨c0, c1, c2, c3, c4, c5⟩ := HAT.out.keep hb (((Grows.refl _).alloc _).trans g1)
    go_wp2
    go_ret2
    exact ⟨ret_get HV.out.symm HB.out.symm, ((Grows.refl _).alloc _).trans g1⟩

theorem implGet_w (A : Option Addr) (c : Nat) (ls : List Ln) (s key : ByteArray) (w : World) (hf : AllFit ls) (_hw : wlines ls ≤ 1048576) (_h1 : s.size ≤ maxLen) (_h2 : key.size ≤ maxLen) (hA : LnsAt w A ls) :
    Calls Try.prog 26 #[.agg #[.slice A ls.length c], .string s, .string key] w fun e w' => e = .returned (.tuple #[.string (getV ls s key), .bool (getB ls s key)]) ∧ Grows w w' := implGet_any A c ls s key w hf hA
end Go.Proofs.Ytdedidcjbocicaa
