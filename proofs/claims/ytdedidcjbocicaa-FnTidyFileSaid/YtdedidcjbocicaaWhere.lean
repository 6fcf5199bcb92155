/-
  The pairs of a key and the line of a key: pairsOf and WhereIs of the program; GetValue of both. Conditions: at most 1048576 bytes in all.
-/
import Derived.Test.YtdedidcjbocicaaPair
namespace Go.Proofs.Ytdedidcjbocicaa
open Go.RowKit

/-- the lines of a section of a file, none if it is not valid -/
def secOf (ls : List Ln) (s : ByteArray) : List Nat := if vfile ls = true then secTo ls s ls.length else []
/-- the pairs of a key of a file, none if it is not valid -/
def pairsOf' (ls : List Ln) (s key : ByteArray) : List Nat := if vfile ls = true then pairsTo ls s key ls.length else []
theorem pairsOf_eq (ls : List Ln) (s key : ByteArray) : (secOf ls s).filter (isKey ls key) = pairsOf' ls s key := by
  unfold secOf pairsOf'
  split
  · exact pairsTo_eq _ _ _ _
  · rfl
theorem secOf_lt {ls : List Ln} {s : ByteArray} {i : Nat} (h : i ∈ secOf ls s) : i < ls.length := by
  unfold secOf at h
  split at h
  · exact secTo_lt h
  · cases h
theorem secOf_le (ls : List Ln) (s : ByteArray) : (secOf ls s).length ≤ ls.length := by
  unfold secOf
  split
  · exact secTo_le _ _ _
  · exact Nat.zero_le _
theorem whereOf_eq (ls : List Ln) (s key : ByteArray) : whereOf ls s key = match (pairsOf' ls s key).getLast? with | some i => (i : Int) | none => -1 := by
  unfold whereOf pairsOf'
  by_cases h : vfile ls = true
  · rw [if_pos h, if_pos h]; exact lastP_pairs _ _ _ _
  · rw [if_neg h, if_neg h]; rfl

set_option maxRecDepth 100000 in
set_option maxHeartbeats 2000000 in
theorem linesIn_all (A : Option Addr) (c : Nat) (ls : List Ln) (s : ByteArray) (w : World) (hf : AllFit ls) (hA : LnsAt w A ls) :
    Calls Try.prog 50 #[.agg #[.slice A ls.length c], .string s] w (ValsRet (ints (secOf ls s)) w) := by
  by_cases hv : vfile ls = true
  · have := linesIn_any A c ls s w hf hv hA
    unfold secOf
    rw [if_pos hv]
    exact this
  · have hv' : vfile ls = false := by simpa using hv
    have HF := Lib.hid (fun w1 (g : Grows w w1) => implFile_any A c ls w1 hf (hA.keep g))
    rw [hv'] at HF
    have HV : Hid (secOf ls s = []) := by unfold Hid secOf; rw [if_neg hv]
    clear hv hv' hA hf
    go_enter Try.func50, Try.ntmps50
    go_wp2_with fail
    refine (HF.out _ ((Grows.refl _).alloc _)).mono ?_
    rintro e w1 ⟨rfl, g1⟩
    go_wp2
    go_ret
    rw [HV.out]
    exact ⟨none, 0, rfl, fun h => absurd h (Nat.lt_irrefl _), ((Grows.refl _).alloc _).trans g1, Nat.le_refl _⟩

set_option maxRecDepth 100000 in
set_option maxHeartbeats 2000000 in
theorem pairsOf_any (A : Option Addr) (c : Nat) (ls : List Ln) (s key : ByteArray) (w : World) (hf : AllFit ls) (hA : LnsAt w A ls) :
    Calls Try.prog 54 #[.agg #[.slice A ls.length c], .string s, .string key] w (ValsRet (ints (pairsOf' ls s key)) w) := by
  have HF := Lib.hid (fun w1 (g : Grows w w1) => linesIn_all A c ls s w1 hf (hA.keep g))
  have HA := Lib.hid hA
  have hn : ls.length ≤ 1048576 := hf.1
  have HE := Lib.hid (pairsOf_eq ls s key)
  have HLT : Hid (∀ i (h : i < (secOf ls s).length), (secOf ls s)[i] < ls.length) := fun i h => secOf_lt (List.getElem_mem h)
  have hL := secOf_le ls s
  clear hA hf
  obtain ⟨L, hLL⟩ : ∃ L, secOf ls s = L := ⟨_, rfl⟩
  rw [hLL] at HF HE HLT hL
  clear hLL
  obtain ⟨n, hnn⟩ : ∃ n, ls.length = n := ⟨_, rfl⟩
  rw [hnn] at hn HF HLT hL
  rw [hnn]
  have HN := Lib.hid hnn
  clear hnn
  obtain ⟨i0, hi, hz0, hz1, hz2⟩ := info_parts infoInt
  have HI : Hid (Try.prog.info? 3 = some i0) := hi
  have HZ0 : Hid (i0.zero = some (.int .i64 0)) := hz0
  have HZ1 : Hid (i0.size = 1) := hz1
  have HZ2 : Hid (i0.bytes = 8) := hz2
  clear hi hz0 hz1 hz2
  go_enter Try.func54, Try.ntmps54
  go_wp2_with fail
  refine (HF.out _ ((Grows.refl _).alloc _)).mono ?_
  rintro e w1 ⟨A1, c1, rfl, hv1, g1, _⟩
  have HG0 : Hid (Grows (w.alloc (fbox A n c)) w1) := g1
  have HV1 := Lib.hid hv1
  have HG1 : Hid (Grows w w1) := ((Grows.refl _).alloc _).trans g1
  clear g1 hv1
  rw [ints_length]
  obtain ⟨p, hp⟩ : ∃ p, L.length = p := ⟨_, rfl⟩
  rw [hp]
  rw [hp] at hL
  have HP := Lib.hid hp
  clear hp
  go_wp2_with fail
  go_loopw [7, 14] (fun v i wr => ∃ (j : Nat) (R : List Nat), j ≤ p ∧ i = .int .i64 j ∧ Hid (R = (L.take j).filter (isKey ls key)) ∧ R.length ≤ j ∧ wr.ownsRow w1.heap.size 3 1 v R.length (ints R) ∧ Grows w1 wr) (fun _ i _ => p - (intOf i).toNat)
  case atStart => exact ⟨0, [], Nat.zero_le _, rfl, rfl, Nat.zero_le _, World.ownsRow_nil _ _ _ _, Grows.refl _⟩
  case round =>
    obtain ⟨j, R, hj, rfl, HR, hRj, hown, hg⟩ := hrel
    have HG := Lib.hid hg
    have HOW := Lib.hid hown
    have hb0 : wr.cell? ⟨w.heap.size, 0, none⟩ = some (.slice A n c) := ((HG0.out.trans HG.out).cell (p := ⟨w.heap.size, 0, none⟩) (by simp)).trans (by simp [fbox])
    clear hg hown
    by_cases hlt : j < p
    · have hjL : j < L.length := by rw [HP.out]; exact hlt
      have hx := HLT.out j hjL
      have hTS : L.take (j + 1) = L.take j ++ [L[j]] := List.take_succ_eq_append_getElem hjL
      obtain ⟨b1, o1, rfl, hb1, hc1⟩ := HV1.out (by rw [ints_length]; omega)
      have d0 := hc1 j (by rw [ints_length]; exact hjL)
      have hix : (ints L)[j]'(by rw [ints_length]; exact hjL) = Value.int .i64 (L[j] : Int) := by simp [ints]
      rw [hix] at d0
      obtain ⟨x, hxx⟩ : ∃ x, L[j] = x := ⟨_, rfl⟩
      rw [hxx] at hx hTS d0
      have d1 : wr.cell? ⟨b1, o1 + j, none⟩ = some (.int .i64 x) := (HG.out.cell (p := ⟨b1, o1 + j, none⟩) hb1).trans d0
      obtain ⟨b, o, rfl, hb, hc⟩ := HA.out (by rw [HN.out]; omega)
      have hk2 : x < ls.length := by rw [HN.out]; exact hx
      have HSU := Lib.hid (get_bang hk2)
      obtain ⟨l, hl⟩ : ∃ l, ls[x] = l := ⟨_, rfl⟩
      have hat := (hc x hk2).keep hb (HG1.out.trans HG.out)
      rw [hl] at hat HSU
      obtain ⟨c0, c1', c2, c3, c4, c5⟩ := hat
      have HK : Hid (isKey ls key x = ((l.k == 3) && (l.na.toList == key.toList))) := by
        unfold Hid isKey
        rw [HSU.out]
      have HTS := Lib.hid hTS
      clear hl hc hc1 hix d0 hxx hTS
      by_cases hk : isKey ls key x = true
      · have HS2 : Hid ((L.take (j + 1)).filter (isKey ls key) = R ++ [x]) := by
          unfold Hid; rw [HTS.out, List.filter_append, ← HR.out]; simp [hk]
        rw [HK.out, Bool.and_eq_true] at hk
        obtain ⟨e1, e2⟩ := hk
        go_wp2_with (at_builtin; refine wpList_append_own _ rfl _ _ 70 rfl w1.heap.size 3 i0 (.int .i64 0) 1 8 Try.underlying70 HI.out HZ0.out HZ1.out HZ2.out rfl (by decide) _ _ _ rfl (HOW.out.alloc _) ⟨wr.heap.size, 0, none⟩ 1 1 [.int .i64 x] rfl rfl ?c1 ?c2 ?c3 ?c4 ?c5 ?_)
        case c1 =>
          intro j u hj
          match j, hj with
          | 0, hj => simp at hj; subst hj; simp [Addr.add]
        case c2 => intro u hu; simp at hu; subst hu; rfl
        case c3 => unfold maxLen; omega
        case c4 => omega
        case c5 => have := HG.out.size; simp; omega
        · intro v' w2 hown' hgrow _
          have HR2 : Hid (Grows w1 w2) := (HG.out.alloc _).grown (HOW.out.alloc _) hgrow
          have HO2 : Hid (w2.ownsRow w1.heap.size 3 1 v' (R ++ [x]).length (ints (R ++ [x]))) := by unfold Hid; rw [ints_snoc, List.length_append]; exact hown'
          clear hown' hgrow
          go_wp2
          go_roundw
          case rel => exact ⟨j + 1, R ++ [x], by omega, by go_num, HS2.out.symm, by simp; omega, HO2.out, HR2.out⟩
          case measure => simp [intOf]; omega
      · have hk' : isKey ls key x = false := by simpa using hk
        have HS2 : Hid ((L.take (j + 1)).filter (isKey ls key) = R) := by
          unfold Hid; rw [HTS.out, List.filter_append, ← HR.out]; simp [hk']
        rw [HK.out, Bool.and_eq_false_iff] at hk'
        clear hk
        by_cases e1 : (l.k == 3) = true
        · have e2 : (l.na.toList == key.toList) = false := by
            rcases hk' with h | h
            · rw [e1] at h; cases h
            · exact h
          clear hk'
          go_wp2
          go_roundw
          case rel => exact ⟨j + 1, R, by omega, by go_num, HS2.out.symm, by omega, HOW.out, HG.out⟩
          case measure => simp [intOf]; omega
        · have e1' : (l.k == 3) = false := by simpa using e1
          clear hk' e1
          go_wp2
          go_roundw
          case rel => exact ⟨j + 1, R, by omega, by go_num, HS2.out.symm, by omega, HOW.out, HG.out⟩
          case measure => simp [intOf]; omega
    · obtain rfl : j = p := by omega
      have HRR : Hid (R = pairsOf' ls s key) := by
        unfold Hid
        rw [← HE.out, HR.out, ← HP.out, List.take_length]
      go_wp2
      go_ret
      obtain ⟨A', c', hv', hat', hcp'⟩ := ValsAt.of_own (base := w1.heap.size) (e := 3) (v := u7) (xs := ints R) (by rw [ints_length]; exact HOW.out)
      rw [← HRR.out]
      exact ⟨A', c', by rw [← hv']; rfl, hat', HG1.out.trans HG.out, hcp'⟩

set_option maxRecDepth 100000 in
set_option maxHeartbeats 2000000 in
theorem implWhere_any (A : Option Addr) (c : Nat) (ls : List Ln) (s key : ByteArray) (w : World) (hf : AllFit ls) (hA : LnsAt w A ls) :
    Calls Try.prog 30 #[.agg #[.slice A ls.length c], .string s, .string key] w fun e w' => e = .returned (.int .i64 (whereOf ls s key)) ∧ Grows w w' := by
  have HF := Lib.hid (fun w1 (g : Grows w w1) => pairsOf_any A c ls s key w1 hf (hA.keep g))
  have HW := Lib.hid (whereOf_eq ls s key)
  have hn : ls.length ≤ 1048576 := hf.1
  have hpl : (pairsOf' ls s key).length ≤ ls.length := by
    rw [← pairsOf_eq]
    exact Nat.le_trans (List.length_filter_le _ _) (secOf_le _ _)
  clear hA hf
  obtain ⟨R, hR⟩ : ∃ R, pairsOf' ls s key = R := ⟨_, rfl⟩
  rw [hR] at HF HW hpl
  clear hR
  by_cases h0 : R.length = 0
  · have hR0 : R = [] := List.eq_nil_of_length_eq_zero h0
    subst hR0
    have HV : Hid (whereOf ls s key = -1) := HW.out
    clear h0
    go_enter Try.func30, Try.ntmps30
    go_wp2_with fail
    refine (HF.out _ ((Grows.refl _).alloc _)).mono ?_
    rintro e w1 ⟨A1, c1, rfl, hv1, g1, _⟩
    go_wp2
    go_ret
    exact ⟨ret_int HV.out.symm, ((Grows.refl _).alloc _).trans g1⟩
  · have h1 : R.length - 1 < R.length := by omega
    have HV : Hid (whereOf ls s key = (R[R.length - 1] : Nat)) := by
      unfold Hid
      rw [HW.out, List.getLast?_eq_getElem?, List.getElem?_eq_getElem h1]
    go_enter Try.func30, Try.ntmps30
    go_wp2_with fail
    refine (HF.out _ ((Grows.refl _).alloc _)).mono ?_
    rintro e w1 ⟨A1, c1, rfl, hv1, g1, _⟩
    obtain ⟨b1, o1, rfl, hb1, hc1⟩ := hv1 (by rw [ints_length]; omega)
    have d0 := hc1 (R.length - 1) (by rw [ints_length]; exact h1)
    have hix : (ints R)[R.length - 1]'(by rw [ints_length]; exact h1) = Value.int .i64 (R[R.length - 1] : Nat) := by simp [ints]
    rw [hix] at d0
    rw [ints_length]
    obtain ⟨x, hxx⟩ : ∃ x, R[R.length - 1] = x := ⟨_, rfl⟩
    rw [hxx] at d0 HV
    clear hix hxx hc1
    obtain ⟨q, hq⟩ : ∃ q, R.length = q + 1 := ⟨R.length - 1, by omega⟩
    rw [hq] at d0 hpl ⊢
    have d1 : w1.cell? ⟨b1, o1 + q, none⟩ = some (.int .i64 x) := d0
    clear d0 h0 h1 hq
    go_wp2
    go_ret
    exact ⟨ret_int HV.out.symm, ((Grows.refl _).alloc _).trans g1⟩

theorem specWhere_w (A : Option Addr) (c : Nat) (ls : List Ln) (s key : ByteArray) (w : World) (hf : AllFit ls) (_hw : wlines ls ≤ 1048576) (_h1 : s.size ≤ maxLen) (_h2 : key.size ≤ maxLen) (hA : LnsAt w A ls) :
    Calls Try.prog 34 #[.agg #[.slice A ls.length c], .string s, .string key] w fun e w' => e = .returned (.int .i64 (whereOf ls s key)) ∧ Grows w w' := specWhere_any A c ls s key w hf hA
theorem implWhere_w (A : Option Addr) (c : Nat) (ls : List Ln) (s key : ByteArray) (w : World) (hf : AllFit ls) (_hw : wlines ls ≤ 1048576) (_h1 : s.size ≤ maxLen) (_h2 : key.size ≤ maxLen) (hA : LnsAt w A ls) :
    Calls Try.prog 30 #[.agg #[.slice A ls.length c], .string s, .string key] w fun e w' => e = .returned (.int .i64 (whereOf ls s key)) ∧ Grows w w' := implWhere_any A c ls s key w hf hA
end Go.Proofs.Ytdedidcjbocicaa
