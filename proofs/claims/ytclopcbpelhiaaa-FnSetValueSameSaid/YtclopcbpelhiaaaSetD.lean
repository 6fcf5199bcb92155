/-
  A file with one more value: SetValue of the specification, where the key is new. Conditions: at most 1048576 bytes in all.
-/
import Derived.Test.YtclopcbpelhiaaaSetC
namespace Go.Proofs.Ytclopcbpelhiaaa
open Go.RowKit

set_option maxRecDepth 100000 in
set_option maxHeartbeats 2000000 in
/-- the copy is never nil -/
theorem specCopy_some (ad : Addr) (c : Nat) (ls : List Ln) (w : World) (hn : ls.length ≤ 1048576) (hA : LnsAt w (some ad) ls) :
    Calls Try.prog 37 #[.slice (some ad) ls.length c] w fun e w' => ∃ g cap, e = .returned (.slice (some ⟨g, 0, none⟩) ls.length cap) ∧ ls.length ≤ cap ∧ cap ≤ maxLen ∧ OwnL w' w.heap.size (.slice (some ⟨g, 0, none⟩) ls.length cap) ls ∧ Grows w w' := by
  obtain ⟨i0, hi, hz0, hz1, hz2⟩ := info_parts infoLine
  have HI : Hid (Try.prog.info? 55 = some i0) := hi
  have HZ0 : Hid (i0.zero = some Ln.zero.agg) := hz0
  have HZ1 : Hid (i0.size = 6) := hz1
  have HZ2 : Hid (i0.bytes = 88) := hz2
  clear hi hz0 hz1 hz2
  have HOE := Lib.hid (OwnL.empty w w.heap.size (Nat.le_refl _))
  have HN : Hid (∀ j u, (lcells ls)[j]? = some u → (w.alloc (.cells #[] 55)).cell? (ad.add j) = some u) := fun j u hj => by
    have hpos : 0 < ls.length := by
      rcases Nat.eq_zero_or_pos ls.length with h | h
      · rw [List.eq_nil_of_length_eq_zero h] at hj; simp [lcells] at hj
      · exact h
    have hA2 := hA.keep ((Grows.refl w).alloc (.cells #[] 55))
    obtain ⟨b, o, e, hb, hc⟩ := hA2 hpos
    injection e with e
    subst e
    exact LnsAt.cells hc j u hj
  have HL := Lib.hid (lcells_length ls)
  obtain ⟨n, hnn⟩ : ∃ n, ls.length = n := ⟨_, rfl⟩
  rw [hnn] at hn HL ⊢
  have HNN := Lib.hid hnn
  clear hA hnn
  go_enter Try.func37, Try.ntmps37
  go_wp2_with (at_builtin; refine wpList_append_own _ rfl _ _ 23 rfl w.heap.size 55 i0 Ln.zero.agg 6 88 Try.underlying23 HI.out HZ0.out HZ1.out HZ2.out rfl (by decide) _ 0 [] rfl HOE.out ad n c (lcells ls) rfl HL.out HN.out (lcells_one ls) (by unfold maxLen; omega) (by omega) (by simp) ?_)
  intro v' w2 h1 h2 h3
  have hx : ∃ g cap, v' = .slice (some ⟨g, 0, none⟩) n cap ∧ n ≤ cap ∧ cap ≤ maxLen := by
    rcases h1.2 with ⟨hv, _⟩ | ⟨g, cap, cur, hv, _, _, hle, hmx, _⟩
    · exact absurd hv (by simpa using h3)
    · exact ⟨g, cap, by simpa using hv, by simpa using hle, hmx⟩
  obtain ⟨g, cap, rfl, hle, hmx⟩ := hx
  have HO2 : Hid (OwnL w2 w.heap.size (.slice (some ⟨g, 0, none⟩) n cap) ls) := by
    unfold Hid OwnL OwnR
    rw [HNN.out]
    simpa using h1
  have HG2 : Hid (Grows w w2) := ((Grows.refl w).alloc _).mark h2 (fun k hk => by have h' : some w.heap.size = some k := hk; injection h' with h'; omega)
  have HC : Hid (n ≤ cap ∧ cap ≤ maxLen) := ⟨hle, hmx⟩
  clear h1 h2 h3 hle hmx
  go_wp2
  go_ret
  exact ⟨_, _, rfl, HC.out.1, HC.out.2, HO2.out, HG2.out⟩

theorem specCopyO_some (A : Option Addr) (c : Nat) (ls : List Ln) (w : World) (hn : ls.length ≤ 1048576) (hA : LnsAt w A ls) :
    Calls Try.prog 37 #[.slice A ls.length c] w fun e w' => ∃ g cap, e = .returned (.slice (some ⟨g, 0, none⟩) ls.length cap) ∧ ls.length ≤ cap ∧ cap ≤ maxLen ∧ OwnL w' w.heap.size (.slice (some ⟨g, 0, none⟩) ls.length cap) ls ∧ Grows w w' := by
  rcases A with _ | A
  · rcases Nat.eq_zero_or_pos ls.length with h0 | h0
    · have h1 : ls = [] := List.eq_nil_of_length_eq_zero h0
      subst h1
      refine (specCopy_none c w).mono ?_
      rintro e w' ⟨rfl, rfl⟩
      exact ⟨_, _, rfl, Nat.le_refl _, Nat.zero_le _, OwnL.empty w w.heap.size (Nat.le_refl _), (Grows.refl w).alloc _⟩
    · obtain ⟨b, o, e, _⟩ := hA h0
      cases e
  · exact specCopy_some A c ls w hn hA
theorem appLm {w : World} {ops : Array Oper} {rest : List Oper} {o : Oper} {a : Act} {Q : Exit → Act → World → Prop} (hgd : o.guard = none) (s x : Operand)
    (ho : o.op = .call { callee := .builtin .append, args := #[s, x], argTypes := #[23, 23] })
    (base : Nat) (v : Value) (K : List Ln) (hs : a.eval s = v) (hown : OwnL w base v K) (ad : Addr) (m c : Nat) (ns : List Ln) (hx : a.eval x = .slice (some ad) m c) (hm : ns.length = m)
    (hnews : ∀ j u, (lcells ns)[j]? = some u → w.cell? (ad.add j) = some u) (hK : K.length ≤ 4194304) (hm2 : m ≤ 1048576) (hbase : base ≤ w.heap.size)
    (h : ∀ v' w', Hid (OwnL w' base v' (K ++ ns)) → Hid (w.grownBy w' v.ownBlock) → wpList Try.prog ops Q rest (a.put o.dst v') w') : wpList Try.prog ops Q (o :: rest) a w := by
  obtain ⟨i0, hi, hz0, hz1, hz2⟩ := info_parts infoLine
  refine wpList_append_own _ hgd s x 23 ho base 55 i0 Ln.zero.agg 6 88 Try.underlying23 hi hz0 hz1 hz2 rfl (by decide) v K.length (lcells K) hs hown ad m c (lcells ns) hx (by rw [lcells_length, hm]) hnews (lcells_one ns) (by unfold maxLen; omega) (by omega) hbase ?_
  intro v' w' h1 h2 _
  refine h v' w' ?_ h2
  unfold Hid OwnL OwnR
  rw [lcells_append, List.length_append, hm]
  exact h1

theorem two_newsA (w : World) (l m : Ln) (t : TypeId) {p : Nat} (hp : w.heap.size = p) : ∀ j u, (lcells [l, m])[j]? = some u → (w.alloc (.cells #[.int .i64 l.k, .string l.le, .string l.na, .string l.se, .string l.va, .string l.ta, .int .i64 m.k, .string m.le, .string m.na, .string m.se, .string m.va, .string m.ta] t)).cell? ((⟨p, 0, none⟩ : Addr).add j) = some u := fun j u hj => by
  subst hp
  exact World.news_of_block (heap_alloc_new w _) j u (by simpa [lcells, lcell] using hj)
theorem putL_end (ls ms : List Ln) : putL ls ls.length ms = ls ++ ms := by
  unfold putL
  rw [List.take_length, List.drop_length, List.append_nil]

set_option maxRecDepth 100000 in
set_option maxHeartbeats 4000000 in
theorem specSet_sec (A : Option Addr) (c : Nat) (ls : List Ln) (s key v : ByteArray) (w : World) (hf : AllFit ls) (hs : s.size ≤ 1048576) (hk : key.size ≤ 1048576) (hv : v.size ≤ 1048576) (hA : LnsAt w A ls) (h : setOk ls s key v = true) (hp : lastP ls s key ls.length < 0) (hpl : placeTo ls s ls.length = -2) :
    Calls Try.prog 9 #[.agg #[.slice A ls.length c], .string s, .string key, .string v] w (ResLB (setL ls s key v) (setB ls s key v) w) := by
  have hvf : vfile ls = true ∧ (s.toList.isEmpty = false → vname s = true) ∧ vname key = true ∧ vvalue v = true := by
    unfold setOk at h
    rw [Bool.and_eq_true, Bool.and_eq_true, Bool.and_eq_true, Bool.or_eq_true] at h
    exact ⟨h.1, fun e => by rcases h.2.1 with h1 | h1
                            · rw [h1] at e; cases e
                            · exact h1, h.2.2.1, h.2.2.2⟩
  clear h
  have h20 := vfile_20 hvf.1
  have e0 := set_sec (v := v) hvf.1 hp hpl
  have HV : Hid (setL ls s key v = chkL (putL ls ls.length [headL s, pairL key v])) := by unfold Hid setL; rw [e0]
  have HB : Hid (setB ls s key v = vfile (putL ls ls.length [headL s, pairL key v])) := by unfold Hid setB; rw [e0]
  have hm2 : ∀ i (h : i < [headL s, pairL key v].length), [headL s, pairL key v][i].fits := fun i h => by
    have h9 : i = 0 ∨ i = 1 := by simp at h; omega
    rcases h9 with rfl | rfl
    · exact ⟨Nat.zero_le _, hs, Nat.zero_le _, Nat.zero_le _, Nat.zero_le _⟩
    · exact ⟨Nat.zero_le _, hk, by show newSep.size ≤ maxLen; decide, Nat.le_trans hv (by unfold maxLen; omega), Nat.zero_le _⟩
  have HFR := Lib.hid (putL_fits (k := ls.length) (ms := [headL s, pairL key v]) hf (by simp; omega) hm2)
  have HPE := Lib.hid (putL_end ls [headL s, pairL key v])
  have HLP := Lib.hid (fun w1 (g : Grows w w1) => lastPair_any A c ls s key w1 hf.1 (hA.keep g))
  have HPL := Lib.hid (fun w1 (g : Grows w w1) => placeFor_any A c ls s w1 hf.1 (hA.keep g))
  rw [hpl] at HPL
  have he : s.toList.isEmpty = false := by
    rcases he : s.toList.isEmpty with _ | _
    · rfl
    · have := (placeTo_lt ls s ls.length).2.2 he
      omega
  have he1 : ¬ s.toList = [] := by intro h; rw [h] at he; simp at he
  have hn : ls.length ≤ 1048576 := hf.1
  have HCP := Lib.hid (fun w1 (g : Grows w w1) => specCopyO_some A c ls w1 hf.1 (hA.keep g))
  obtain ⟨ad, hAe⟩ : ∃ ad, A = ad := ⟨_, rfl⟩
  rw [hAe] at HCP HLP HPL hA ⊢
  clear hAe
  obtain ⟨A, rfl⟩ : ∃ A, A = ad := ⟨_, rfl⟩
  have HF := Lib.hid (fun w1 (g : Grows w w1) => specFile_any A c ls w1 hf (hA.keep g))
  have HN1 := Lib.hid (fun w1 => specName_any s w1 hs)
  have HN2 := Lib.hid (fun w1 => specName_any key w1 hk)
  have HN3 := Lib.hid (fun w1 => specValue_any v w1 (by unfold maxLen; omega))
  obtain ⟨R, hR⟩ : ∃ R, putL ls ls.length [headL s, pairL key v] = R := ⟨_, rfl⟩
  rw [hR] at HFR HV HB HPE
  have HCK := Lib.hid (fun (v : Value) (b : Nat) w1 (h : OwnL w1 b v R) => checkedFile_any v b R w1 HFR.out h)
  rw [hvf.2.1 he] at HN1
  rw [hvf.1] at HF
  rw [hvf.2.2.1] at HN2
  rw [hvf.2.2.2] at HN3
  unfold ChkRet at HCK
  obtain ⟨β, hβ⟩ : ∃ β, vfile R = β := ⟨_, rfl⟩
  rw [hβ] at HCK HB
  obtain ⟨q, hq⟩ : ∃ q, lastP ls s key ls.length = q := ⟨_, rfl⟩
  rw [hq] at HLP hp
  clear hR hβ e0 hpl hq hA hf hs hk hv hm2 hvf
  obtain ⟨n, hnn⟩ : ∃ n, ls.length = n := ⟨_, rfl⟩
  rw [hnn] at HF HCP HLP HPL hn h20
  rw [hnn]
  have HN := Lib.hid hnn
  clear hnn
  go_enter Try.func9, Try.ntmps9
  go_wp2_with fail
  refine (HF.out _ (((Grows.refl _).alloc _).alloc _)).mono ?_
  rintro e w1 ⟨rfl, g1⟩
  have HG01 : Hid (Grows ((w.alloc (fbox A n c)).alloc (fbox none 0 0)) w1) := g1
  have HG1 : Hid (Grows w w1) := (((Grows.refl _).alloc _).alloc _).trans g1
  clear g1
  go_wp2_with fail
  refine (HN1.out _).mono ?_
  rintro e w2 ⟨rfl, rfl⟩
  go_wp2_with fail
  refine (HN2.out _).mono ?_
  rintro e w2 ⟨rfl, rfl⟩
  go_wp2_with fail
  refine (HN3.out _).mono ?_
  rintro e w2 ⟨rfl, rfl⟩
  have hb1 : w1.cell? ⟨w.heap.size, 0, none⟩ = some (.slice A n c) := (HG01.out.cell (p := ⟨w.heap.size, 0, none⟩) (by simp; omega)).trans (by simp [fbox])
  go_wp2_with fail
  refine (HCP.out _ HG1.out).mono ?_
  rintro e w2 ⟨g, cv, rfl, hcv, hcm, ho, g2⟩
  have HO2 := Lib.hid ho
  have HG2 : Hid (Grows w1 w2) := g2
  have hb2 : w2.cell? ⟨w.heap.size, 0, none⟩ = some (.slice A n c) := ((HG01.out.trans HG2.out).cell (p := ⟨w.heap.size, 0, none⟩) (by simp; omega)).trans (by simp [fbox])
  clear g2 ho hb1
  go_wp2_with fail
  refine (HLP.out _ (HG1.out.trans HG2.out)).mono ?_
  rintro e w3 ⟨rfl, g3⟩
  have HO3 := Lib.hid (HO2.out.keep g3)
  have HG3 : Hid (Grows w1 w3) := HG2.out.trans g3
  have hb3 : w3.cell? ⟨w.heap.size, 0, none⟩ = some (.slice A n c) := ((HG01.out.trans HG3.out).cell (p := ⟨w.heap.size, 0, none⟩) (by simp; omega)).trans (by simp [fbox])
  clear g3 hb2
  go_wp2_with fail
  refine (HPL.out _ (HG1.out.trans HG3.out)).mono ?_
  rintro e w4 ⟨rfl, g4⟩
  have HO4 := Lib.hid (HO3.out.keep g4)
  have HG4 : Hid (Grows w1 w4) := HG3.out.trans g4
  clear g4 hb3
  go_wp2_with fail
  refine (newPair_any key v _).mono ?_
  rintro e w5 ⟨rfl, g5⟩
  have HO5 := Lib.hid (HO4.out.keep g5)
  have HG5 : Hid (Grows w1 w5) := HG4.out.trans g5
  clear g5
  go_wp2_with (at_builtin; refine appLm rfl _ _ rfl w1.heap.size _ ls rfl (HO5.out.keep ((Grows.refl _).alloc _)) ⟨w5.heap.size, 0, none⟩ 2 2 [headL s, pairL key v] rfl rfl (two_newsA _ _ _ _ rfl) (by rw [HN.out]; omega) (by omega) (Nat.le_trans HG5.out.size (by simp)) ?_)
  intro v6 w6 HO6 HGB
  have HG6 : Hid (Grows w1 w6) := (HG5.out.alloc _).mark HGB.out (fun k hk => (HO5.out.lt k hk).1)
  rw [← HPE.out] at HO6
  clear HGB
  go_wp2_with fail
  refine (HCK.out _ _ _ HO6.out).mono ?_
  rintro e w7 ⟨u, rfl, ho, g9⟩
  have HG7 : Hid (Grows w1 w7) := HG6.out.trans g9
  have HOE := Lib.hid ho
  obtain ⟨A5, n5, c5, hv5⟩ := ho.form3
  subst hv5
  clear g9 ho
  have HG0E : Hid (Grows ((w.alloc (fbox A n c)).alloc (fbox none 0 0)) w7) := HG01.out.trans HG7.out
  have h1 : w7.cell? ⟨w.heap.size + 1, 0, none⟩ = some (.slice none 0 0) := (HG0E.out.cell (p := ⟨w.heap.size + 1, 0, none⟩) (by simp)).trans (by simp [fbox])
  have h2 : w7.frozen? ⟨w.heap.size + 1, 0, none⟩ = false := (HG0E.out.frozen (p := ⟨w.heap.size + 1, 0, none⟩) (by simp)).trans (by simp [fbox])
  have hs1 : w.heap.size + 1 < w1.heap.size := Nat.lt_of_lt_of_le (by simp) HG01.out.size
  go_wp2
  refine bodyPost_ret (v := .tuple #[.agg #[.slice A5 n5 c5], .bool β]) (by simp [results, Try.results9, go_sem, h1]) rfl ?_
  rw [HV.out, HB.out]
  exact ⟨_, rfl, (HOE.out.setOther hs1 _).less HG1.out.size, (HG1.out.trans HG7.out).setCell (by simp) _⟩

set_option maxRecDepth 100000 in
set_option maxHeartbeats 8000000 in
theorem specSet_new (A : Option Addr) (c : Nat) (ls : List Ln) (s key v : ByteArray) (w : World) (hf : AllFit ls) (hs : s.size ≤ 1048576) (hk : key.size ≤ 1048576) (hv : v.size ≤ 1048576) (hA : LnsAt w A ls) (h : setOk ls s key v = true) (hp : lastP ls s key ls.length < 0) (k : Nat) (hpl : placeTo ls s ls.length + 1 = (k : Int)) :
    Calls Try.prog 9 #[.agg #[.slice A ls.length c], .string s, .string key, .string v] w (ResLB (setL ls s key v) (setB ls s key v) w) := by
  have hvf : vfile ls = true ∧ (s.toList.isEmpty = false → vname s = true) ∧ vname key = true ∧ vvalue v = true := by
    unfold setOk at h
    rw [Bool.and_eq_true, Bool.and_eq_true, Bool.and_eq_true, Bool.or_eq_true] at h
    exact ⟨h.1, fun e => by rcases h.2.1 with h1 | h1
                            · rw [h1] at e; cases e
                            · exact h1, h.2.2.1, h.2.2.2⟩
  clear h
  have h20 := vfile_20 hvf.1
  have e0 := set_new (v := v) hvf.1 hp hpl
  have HV : Hid (setL ls s key v = chkL (putL ls k [pairL key v])) := by unfold Hid setL; rw [e0]
  have HB : Hid (setB ls s key v = vfile (putL ls k [pairL key v])) := by unfold Hid setB; rw [e0]
  have hm1 : ∀ i (h : i < [pairL key v].length), [pairL key v][i].fits := fun i h => by
    have h9 : i = 0 := by simp at h; omega
    subst h9
    exact ⟨Nat.zero_le _, hk, by show newSep.size ≤ maxLen; decide, Nat.le_trans hv (by unfold maxLen; omega), Nat.zero_le _⟩
  have HFR := Lib.hid (putL_fits (k := k) (ms := [pairL key v]) hf (by simp; omega) hm1)
  have hkn : k ≤ ls.length := by have := (placeTo_lt ls s ls.length).1; omega
  have HPE : Hid (ls.take k ++ [pairL key v] ++ ls.drop k = putL ls k [pairL key v]) := by unfold Hid putL; rw [List.append_assoc]
  have HTK : Hid ((ls.take k).length = k) := by unfold Hid; rw [List.length_take]; omega
  have HDK : Hid ((ls.drop k).length = ls.length - k) := by unfold Hid; rw [List.length_drop]
  have HLP := Lib.hid (fun w1 (g : Grows w w1) => lastPair_any A c ls s key w1 hf.1 (hA.keep g))
  have HPL := Lib.hid (fun w1 (g : Grows w w1) => placeFor_any A c ls s w1 hf.1 (hA.keep g))
  obtain ⟨z, hz⟩ : ∃ z, placeTo ls s ls.length = z := ⟨_, rfl⟩
  rw [hz] at HPL hpl
  have hz2 : ¬ z = -2 := by omega
  have hz3 : z = (k : Int) - 1 := by omega
  subst hz3
  have hn : ls.length ≤ 1048576 := hf.1
  have HCQ := Lib.hid (fun (g cv : Nat) w1 (h : LnsAt w1 (some ⟨g, 0, none⟩) ls) => specCopy_any ⟨g, 0, none⟩ cv (ls.take k) w1 (by rw [List.length_take]; omega) (h.take k))
  rw [HTK.out] at HCQ
  have HCP := Lib.hid (fun w1 (g : Grows w w1) => specCopyO_some A c ls w1 hf.1 (hA.keep g))
  obtain ⟨ad, hAe⟩ : ∃ ad, A = ad := ⟨_, rfl⟩
  rw [hAe] at HCP HLP HPL hA ⊢
  clear hAe
  obtain ⟨A, rfl⟩ : ∃ A, A = ad := ⟨_, rfl⟩
  have HF := Lib.hid (fun w1 (g : Grows w w1) => specFile_any A c ls w1 hf (hA.keep g))
  have HN1 := Lib.hid (fun w1 => specName_any s w1 hs)
  have HN2 := Lib.hid (fun w1 => specName_any key w1 hk)
  have HN3 := Lib.hid (fun w1 => specValue_any v w1 (by unfold maxLen; omega))
  obtain ⟨R, hR⟩ : ∃ R, putL ls k [pairL key v] = R := ⟨_, rfl⟩
  rw [hR] at HFR HV HB HPE
  have HCK := Lib.hid (fun (v : Value) (b : Nat) w1 (h : OwnL w1 b v R) => checkedFile_any v b R w1 HFR.out h)
  rw [hvf.1] at HF
  rw [hvf.2.2.1] at HN2
  rw [hvf.2.2.2] at HN3
  unfold ChkRet at HCK
  unfold RetL at HCQ
  obtain ⟨β, hβ⟩ : ∃ β, vfile R = β := ⟨_, rfl⟩
  rw [hβ] at HCK HB
  obtain ⟨q, hq⟩ : ∃ q, lastP ls s key ls.length = q := ⟨_, rfl⟩
  rw [hq] at HLP hp
  clear hR hβ e0 hz hq hA hf hs hk hv hm1
  obtain ⟨n, hnn⟩ : ∃ n, ls.length = n := ⟨_, rfl⟩
  rw [hnn] at HF HCP HLP HPL HDK hn h20 hkn
  rw [hnn]
  have HN := Lib.hid hnn
  clear hnn
  by_cases he0 : s.toList.isEmpty = true
  · have he1 : s.toList = [] := by simpa using he0
    clear hvf
    go_enter Try.func9, Try.ntmps9
    go_wp2_with fail
    refine (HF.out _ (((Grows.refl _).alloc _).alloc _)).mono ?_
    rintro e w1 ⟨rfl, g1⟩
    have HG01 : Hid (Grows ((w.alloc (fbox A n c)).alloc (fbox none 0 0)) w1) := g1
    have HG1 : Hid (Grows w w1) := (((Grows.refl _).alloc _).alloc _).trans g1
    clear g1
    go_wp2_with fail
    refine (HN2.out _).mono ?_
    rintro e w2 ⟨rfl, rfl⟩
    go_wp2_with fail
    refine (HN3.out _).mono ?_
    rintro e w2 ⟨rfl, rfl⟩
    have hb1 : w1.cell? ⟨w.heap.size, 0, none⟩ = some (.slice A n c) := (HG01.out.cell (p := ⟨w.heap.size, 0, none⟩) (by simp; omega)).trans (by simp [fbox])
    go_wp2_with fail
    refine (HCP.out _ HG1.out).mono ?_
    rintro e w2 ⟨g, cv, rfl, hcv, hcm, ho, g2⟩
    have HO2 := Lib.hid ho
    have HG2 : Hid (Grows w1 w2) := g2
    have hb2 : w2.cell? ⟨w.heap.size, 0, none⟩ = some (.slice A n c) := ((HG01.out.trans HG2.out).cell (p := ⟨w.heap.size, 0, none⟩) (by simp; omega)).trans (by simp [fbox])
    clear g2 ho hb1
    go_wp2_with fail
    refine (HLP.out _ (HG1.out.trans HG2.out)).mono ?_
    rintro e w3 ⟨rfl, g3⟩
    have HO3 := Lib.hid (HO2.out.keep g3)
    have HG3 : Hid (Grows w1 w3) := HG2.out.trans g3
    have hb3 : w3.cell? ⟨w.heap.size, 0, none⟩ = some (.slice A n c) := ((HG01.out.trans HG3.out).cell (p := ⟨w.heap.size, 0, none⟩) (by simp; omega)).trans (by simp [fbox])
    clear g3 hb2
    go_wp2_with fail
    refine (HPL.out _ (HG1.out.trans HG3.out)).mono ?_
    rintro e w4 ⟨rfl, g4⟩
    have HO4 := Lib.hid (HO3.out.keep g4)
    have HG4 : Hid (Grows w1 w4) := HG3.out.trans g4
    clear g4 hb3
    have HAT : Hid (LnsAt w4 (some ⟨g, 0, none⟩) ls) := by
      have h := HO4.out
      rw [← HN.out] at h
      exact OwnL.at h
    by_cases hck : cv = k
    · obtain rfl : k = cv := hck.symm
      have hnk : n = k := by omega
      have HNEW : Hid (∀ w7, Grows w4 w7 → ∀ j u, (lcells (ls.drop k))[j]? = some u → w7.cell? ((⟨g, 0, none⟩ : Addr).add j) = some u) := fun w7 _ j u hj => by
        rw [List.drop_eq_nil_of_le (by rw [HN.out]; omega)] at hj
        simp [lcells] at hj
      have hwk : IntKind.i64.wrap (k : Int) = (k : Int) := IntWalk.i64_in _ (by omega)
      go_wp2_with fail
      refine wp_region_M 18 (CellsAre []) (by kernel_rfl) (by kernel_rfl) trivial (fun hB hS => ?_)
      refine wpAnyM_take (i := 0) (v := ?va0) hB rfl (by kernel_rfl) (fun _ _ _ h => h) (by rfl) ?ya0 hS ?na0
      case ya0 => (intro w9 _; go_simp; try with_reducible rfl)
      refine wpAnyM_take (i := 1) (v := ?va1) hB rfl (by kernel_rfl) (fun _ _ _ h => h) (by rfl) ?ya1 hS ?na1
      case ya1 => (intro w9 _; go_simp; try with_reducible rfl)
      refine wpAnyM_take (i := 2) (v := .int .i64 (k : Int)) hB rfl (by kernel_rfl) (fun _ _ _ h => h) (by rfl) ?ya2 hS ?na2
      case ya2 => (intro w9 _; go_simp; first | done | rw [hwk] | simp [hwk])
      refine wpAnyM_take (i := 3) (v := ?va3) hB rfl (by kernel_rfl) (fun _ _ _ h => h) (by rfl) ?ya3 hS ?na3
      case ya3 => (intro w9 _; go_simp; try with_reducible rfl)
      refine wpAnyM_take (i := 5) (v := ?va5) hB rfl (by kernel_rfl) (fun _ _ _ h => h) (by rfl) ?ya5 hS ?na5
      case ya5 => (intro w9 _; go_simp; try with_reducible rfl)
      refine wpAnyM_take (i := 6) (v := ?va6) hB rfl (by kernel_rfl) (fun _ _ _ h => h) (by rfl) ?ya6 hS ?na6
      case ya6 => (intro w9 _; go_simp; try with_reducible rfl)
      refine wpAnyM_take (i := 10) (v := ?va10) hB rfl (by kernel_rfl) (fun _ _ _ h => h) (by rfl) ?ya10 hS ?na10
      case ya10 => (intro w9 _; go_simp; try with_reducible rfl)
      refine wpAnyM_take (i := 11) (v := ?va11) hB rfl (by kernel_rfl) (fun _ _ _ h => h) (by rfl) ?ya11 hS ?na11
      case ya11 => (intro w9 _; go_simp; try with_reducible rfl)
      refine wpAnyM_take (i := 12) (v := .int .i64 (k : Int)) hB rfl (by kernel_rfl) (fun _ _ _ h => h) (by rfl) ?ya12 hS ?na12
      case ya12 => (intro w9 _; go_simp; first | done | rw [hwk] | simp [hwk])
      refine wpAnyM_take (i := 13) (v := ?va13) hB rfl (by kernel_rfl) (fun _ _ _ h => h) (by rfl) ?ya13 hS ?na13
      case ya13 => (intro w9 _; go_simp; try with_reducible rfl)
      clear hS
      refine wpAnyM_one (i := 4) rfl (by kernel_rfl) rfl ?_
      go_wp2_with fail
      refine (HCQ.out g k _ (show LnsAt w4.drew _ ls from HAT.out)).mono ?_
      rintro e w5 ⟨u, rfl, ho, g5⟩
      have G5 : Hid (Grows w4 w5) := (Grows.refl _).drew.trans g5
      have HO5 : Hid (OwnL w5 w4.heap.size u (ls.take k)) := ho
      clear g5 ho
      go_wp2_with fail
      refine ⟨trivial, ?_⟩
      refine wpAnyM_one (i := 7) rfl (by kernel_rfl) rfl ?_
      go_wp2_with fail
      refine (newPair_any key v _).mono ?_
      rintro e w6 ⟨rfl, g6⟩
      have G6 : Hid (Grows w4 w6) := G5.out.trans g6
      have HO6 := Lib.hid (HO5.out.keep g6)
      clear g6
      go_wp2_with fail
      refine ⟨trivial, ?_⟩
      refine wpAnyM_one (i := 8) rfl (by kernel_rfl) rfl ?_
      go_wp2_with fail
      refine ⟨trivial, ?_⟩
      refine wpAnyM_one (i := 9) rfl (by kernel_rfl) rfl ?_
      refine appLm rfl (.tmp 80) (.tmp 84) rfl w4.heap.size u (ls.take k) (by simp [Act.eval]) (HO6.out.keep ((Grows.refl _).alloc _)) ⟨w6.heap.size, 0, none⟩ 1 1 [pairL key v] (by simp [Act.eval]) rfl (one_newsA _ _ _ rfl) (by rw [HTK.out]; omega) (by omega) (Nat.le_trans G6.out.size (by simp)) ?_
      intro v7 w7 HO7 HGB
      have G7 : Hid (Grows w4 w7) := (G6.out.alloc _).mark HGB.out (fun k hk => (HO6.out.lt k hk).1)
      clear HGB
      go_wp2_with fail
      refine ⟨trivial, ?_⟩
      refine wpAnyM_one (i := 14) rfl (by kernel_rfl) rfl ?_
      refine appLm rfl (.tmp 85) (.tmp 89) rfl w4.heap.size v7 (ls.take k ++ [pairL key v]) (by simp [Act.eval]) HO7.out ⟨g, 0, none⟩ (n - k) (k - k) (ls.drop k) (by simp [Act.eval] <;> omega) HDK.out (HNEW.out w7 G7.out) (by rw [List.length_append, HTK.out]; simp; omega) (by omega) G7.out.size ?_
      intro v8 w8 HO8 HGB
      have G8 : Hid (Grows w4 w8) := G7.out.mark HGB.out (fun k hk => (HO7.out.lt k hk).1)
      rw [HPE.out] at HO8
      clear HGB
      go_wp2_with fail
      refine ⟨trivial, ?_⟩
      refine wpAnyM_one (i := 15) rfl (by kernel_rfl) rfl ?_
      go_wp2_with fail
      refine (HCK.out _ _ _ HO8.out).mono ?_
      rintro e w9 ⟨u, rfl, ho, g9⟩
      have G9 : Hid (Grows w1 w9) := HG4.out.trans (G8.out.trans g9)
      have HOE : Hid (OwnL w9 w1.heap.size _ (chkL R)) := ho.less HG4.out.size
      obtain ⟨A5, n5, c5, hv5⟩ := ho.form3
      subst hv5
      clear g9 ho
      go_wp2_with fail
      refine ⟨trivial, ?_⟩
      have hS : CellsAre [] w9 := trivial
      refine wpAnyM_take (i := 16) (v := ?vaz16) hB rfl (by kernel_rfl) (fun _ _ _ h => h) (by rfl) ?yaz16 hS ?naz16
      case yaz16 => (intro w9 _; go_simp; try with_reducible rfl)
      refine wpAnyM_take (i := 17) (v := ?vaz17) hB rfl (by kernel_rfl) (fun _ _ _ h => h) (by rfl) ?yaz17 hS ?naz17
      case yaz17 => (intro w9 _; go_simp; try with_reducible rfl)
      refine wpAnyM_tail (by kernel_rfl) ?_
      clear hS hB
      have HG0E : Hid (Grows ((w.alloc (fbox A n c)).alloc (fbox none 0 0)) w9) := HG01.out.trans G9.out
      have h1 : w9.cell? ⟨w.heap.size + 1, 0, none⟩ = some (.slice none 0 0) := (HG0E.out.cell (p := ⟨w.heap.size + 1, 0, none⟩) (by simp)).trans (by simp [fbox])
      have h2 : w9.frozen? ⟨w.heap.size + 1, 0, none⟩ = false := (HG0E.out.frozen (p := ⟨w.heap.size + 1, 0, none⟩) (by simp)).trans (by simp [fbox])
      have hs1 : w.heap.size + 1 < w1.heap.size := Nat.lt_of_lt_of_le (by simp) HG01.out.size
      go_wp2
      refine bodyPost_ret (v := .tuple #[.agg #[.slice A5 n5 c5], .bool β]) (by simp [results, Try.results9, go_sem, h1]) rfl ?_
      rw [HV.out, HB.out]
      exact ⟨_, rfl, (HOE.out.setOther hs1 _).less HG1.out.size, (HG1.out.trans G9.out).setCell (by simp) _⟩
    · have HNEW : Hid (∀ w7, Grows w4 w7 → ∀ j u, (lcells (ls.drop k))[j]? = some u → w7.cell? ((⟨g, k * 6, none⟩ : Addr).add j) = some u) := fun w7 g7 j u hj => by
        rcases Nat.lt_or_ge k n with hlt | hge
        · obtain ⟨bd, od, hde, hbd, hcd⟩ := (HAT.out.keep g7).drop k (by rw [HDK.out]; omega)
          injection hde with hde
          injection hde with hde1 hde2
          subst hde1
          subst hde2
          have h9 := LnsAt.cells hcd j u hj
          rw [Nat.zero_add] at h9
          exact h9
        · rw [List.drop_eq_nil_of_le (by rw [HN.out]; omega)] at hj
          simp [lcells] at hj
      have hck2 : ¬ k = cv := fun e => hck e.symm
      have hkc : k ≤ cv := by omega
      have hwk : IntKind.i64.wrap (k : Int) = (k : Int) := IntWalk.i64_in _ (by omega)
      go_wp2_with fail
      refine wp_region_M 18 (CellsAre []) (by kernel_rfl) (by kernel_rfl) trivial (fun hB hS => ?_)
      refine wpAnyM_take (i := 0) (v := ?vb0) hB rfl (by kernel_rfl) (fun _ _ _ h => h) (by rfl) ?yb0 hS ?nb0
      case yb0 => (intro w9 _; go_simp; try with_reducible rfl)
      refine wpAnyM_take (i := 1) (v := ?vb1) hB rfl (by kernel_rfl) (fun _ _ _ h => h) (by rfl) ?yb1 hS ?nb1
      case yb1 => (intro w9 _; go_simp; try with_reducible rfl)
      refine wpAnyM_take (i := 2) (v := .int .i64 (k : Int)) hB rfl (by kernel_rfl) (fun _ _ _ h => h) (by rfl) ?yb2 hS ?nb2
      case yb2 => (intro w9 _; go_simp; first | done | rw [hwk] | simp [hwk])
      refine wpAnyM_take (i := 3) (v := ?vb3) hB rfl (by kernel_rfl) (fun _ _ _ h => h) (by rfl) ?yb3 hS ?nb3
      case yb3 => (intro w9 _; go_simp; try with_reducible rfl)
      refine wpAnyM_take (i := 5) (v := ?vb5) hB rfl (by kernel_rfl) (fun _ _ _ h => h) (by rfl) ?yb5 hS ?nb5
      case yb5 => (intro w9 _; go_simp; try with_reducible rfl)
      refine wpAnyM_take (i := 6) (v := ?vb6) hB rfl (by kernel_rfl) (fun _ _ _ h => h) (by rfl) ?yb6 hS ?nb6
      case yb6 => (intro w9 _; go_simp; try with_reducible rfl)
      refine wpAnyM_take (i := 10) (v := ?vb10) hB rfl (by kernel_rfl) (fun _ _ _ h => h) (by rfl) ?yb10 hS ?nb10
      case yb10 => (intro w9 _; go_simp; try with_reducible rfl)
      refine wpAnyM_take (i := 11) (v := ?vb11) hB rfl (by kernel_rfl) (fun _ _ _ h => h) (by rfl) ?yb11 hS ?nb11
      case yb11 => (intro w9 _; go_simp; try with_reducible rfl)
      refine wpAnyM_take (i := 12) (v := .int .i64 (k : Int)) hB rfl (by kernel_rfl) (fun _ _ _ h => h) (by rfl) ?yb12 hS ?nb12
      case yb12 => (intro w9 _; go_simp; first | done | rw [hwk] | simp [hwk])
      refine wpAnyM_take (i := 13) (v := ?vb13) hB rfl (by kernel_rfl) (fun _ _ _ h => h) (by rfl) ?yb13 hS ?nb13
      case yb13 => (intro w9 _; go_simp; try with_reducible rfl)
      clear hS
      refine wpAnyM_one (i := 4) rfl (by kernel_rfl) rfl ?_
      go_wp2_with fail
      refine (HCQ.out g cv _ (show LnsAt w4.drew _ ls from HAT.out)).mono ?_
      rintro e w5 ⟨u, rfl, ho, g5⟩
      have G5 : Hid (Grows w4 w5) := (Grows.refl _).drew.trans g5
      have HO5 : Hid (OwnL w5 w4.heap.size u (ls.take k)) := ho
      clear g5 ho
      go_wp2_with fail
      refine ⟨trivial, ?_⟩
      refine wpAnyM_one (i := 7) rfl (by kernel_rfl) rfl ?_
      go_wp2_with fail
      refine (newPair_any key v _).mono ?_
      rintro e w6 ⟨rfl, g6⟩
      have G6 : Hid (Grows w4 w6) := G5.out.trans g6
      have HO6 := Lib.hid (HO5.out.keep g6)
      clear g6
      go_wp2_with fail
      refine ⟨trivial, ?_⟩
      refine wpAnyM_one (i := 8) rfl (by kernel_rfl) rfl ?_
      go_wp2_with fail
      refine ⟨trivial, ?_⟩
      refine wpAnyM_one (i := 9) rfl (by kernel_rfl) rfl ?_
      refine appLm rfl (.tmp 80) (.tmp 84) rfl w4.heap.size u (ls.take k) (by simp [Act.eval]) (HO6.out.keep ((Grows.refl _).alloc _)) ⟨w6.heap.size, 0, none⟩ 1 1 [pairL key v] (by simp [Act.eval]) rfl (one_newsA _ _ _ rfl) (by rw [HTK.out]; omega) (by omega) (Nat.le_trans G6.out.size (by simp)) ?_
      intro v7 w7 HO7 HGB
      have G7 : Hid (Grows w4 w7) := (G6.out.alloc _).mark HGB.out (fun k hk => (HO6.out.lt k hk).1)
      clear HGB
      go_wp2_with fail
      refine ⟨trivial, ?_⟩
      refine wpAnyM_one (i := 14) rfl (by kernel_rfl) rfl ?_
      refine appLm rfl (.tmp 85) (.tmp 89) rfl w4.heap.size v7 (ls.take k ++ [pairL key v]) (by simp [Act.eval]) HO7.out ⟨g, k * 6, none⟩ (n - k) (cv - k) (ls.drop k) (by simp [Act.eval] <;> omega) HDK.out (HNEW.out w7 G7.out) (by rw [List.length_append, HTK.out]; simp; omega) (by omega) G7.out.size ?_
      intro v8 w8 HO8 HGB
      have G8 : Hid (Grows w4 w8) := G7.out.mark HGB.out (fun k hk => (HO7.out.lt k hk).1)
      rw [HPE.out] at HO8
      clear HGB
      go_wp2_with fail
      refine ⟨trivial, ?_⟩
      refine wpAnyM_one (i := 15) rfl (by kernel_rfl) rfl ?_
      go_wp2_with fail
      refine (HCK.out _ _ _ HO8.out).mono ?_
      rintro e w9 ⟨u, rfl, ho, g9⟩
      have G9 : Hid (Grows w1 w9) := HG4.out.trans (G8.out.trans g9)
      have HOE : Hid (OwnL w9 w1.heap.size _ (chkL R)) := ho.less HG4.out.size
      obtain ⟨A5, n5, c5, hv5⟩ := ho.form3
      subst hv5
      clear g9 ho
      go_wp2_with fail
      refine ⟨trivial, ?_⟩
      have hS : CellsAre [] w9 := trivial
      refine wpAnyM_take (i := 16) (v := ?vbz16) hB rfl (by kernel_rfl) (fun _ _ _ h => h) (by rfl) ?ybz16 hS ?nbz16
      case ybz16 => (intro w9 _; go_simp; try with_reducible rfl)
      refine wpAnyM_take (i := 17) (v := ?vbz17) hB rfl (by kernel_rfl) (fun _ _ _ h => h) (by rfl) ?ybz17 hS ?nbz17
      case ybz17 => (intro w9 _; go_simp; try with_reducible rfl)
      refine wpAnyM_tail (by kernel_rfl) ?_
      clear hS hB
      have HG0E : Hid (Grows ((w.alloc (fbox A n c)).alloc (fbox none 0 0)) w9) := HG01.out.trans G9.out
      have h1 : w9.cell? ⟨w.heap.size + 1, 0, none⟩ = some (.slice none 0 0) := (HG0E.out.cell (p := ⟨w.heap.size + 1, 0, none⟩) (by simp)).trans (by simp [fbox])
      have h2 : w9.frozen? ⟨w.heap.size + 1, 0, none⟩ = false := (HG0E.out.frozen (p := ⟨w.heap.size + 1, 0, none⟩) (by simp)).trans (by simp [fbox])
      have hs1 : w.heap.size + 1 < w1.heap.size := Nat.lt_of_lt_of_le (by simp) HG01.out.size
      go_wp2
      refine bodyPost_ret (v := .tuple #[.agg #[.slice A5 n5 c5], .bool β]) (by simp [results, Try.results9, go_sem, h1]) rfl ?_
      rw [HV.out, HB.out]
      exact ⟨_, rfl, (HOE.out.setOther hs1 _).less HG1.out.size, (HG1.out.trans G9.out).setCell (by simp) _⟩
  · have he : s.toList.isEmpty = false := by simpa using he0
    have he1 : ¬ s.toList = [] := by intro h; rw [h] at he; simp at he
    rw [hvf.2.1 he] at HN1
    clear he0 hvf
    go_enter Try.func9, Try.ntmps9
    go_wp2_with fail
    refine (HF.out _ (((Grows.refl _).alloc _).alloc _)).mono ?_
    rintro e w1 ⟨rfl, g1⟩
    have HG01 : Hid (Grows ((w.alloc (fbox A n c)).alloc (fbox none 0 0)) w1) := g1
    have HG1 : Hid (Grows w w1) := (((Grows.refl _).alloc _).alloc _).trans g1
    clear g1
    go_wp2_with fail
    refine (HN1.out _).mono ?_
    rintro e w2 ⟨rfl, rfl⟩
    go_wp2_with fail
    refine (HN2.out _).mono ?_
    rintro e w2 ⟨rfl, rfl⟩
    go_wp2_with fail
    refine (HN3.out _).mono ?_
    rintro e w2 ⟨rfl, rfl⟩
    have hb1 : w1.cell? ⟨w.heap.size, 0, none⟩ = some (.slice A n c) := (HG01.out.cell (p := ⟨w.heap.size, 0, none⟩) (by simp; omega)).trans (by simp [fbox])
    go_wp2_with fail
    refine (HCP.out _ HG1.out).mono ?_
    rintro e w2 ⟨g, cv, rfl, hcv, hcm, ho, g2⟩
    have HO2 := Lib.hid ho
    have HG2 : Hid (Grows w1 w2) := g2
    have hb2 : w2.cell? ⟨w.heap.size, 0, none⟩ = some (.slice A n c) := ((HG01.out.trans HG2.out).cell (p := ⟨w.heap.size, 0, none⟩) (by simp; omega)).trans (by simp [fbox])
    clear g2 ho hb1
    go_wp2_with fail
    refine (HLP.out _ (HG1.out.trans HG2.out)).mono ?_
    rintro e w3 ⟨rfl, g3⟩
    have HO3 := Lib.hid (HO2.out.keep g3)
    have HG3 : Hid (Grows w1 w3) := HG2.out.trans g3
    have hb3 : w3.cell? ⟨w.heap.size, 0, none⟩ = some (.slice A n c) := ((HG01.out.trans HG3.out).cell (p := ⟨w.heap.size, 0, none⟩) (by simp; omega)).trans (by simp [fbox])
    clear g3 hb2
    go_wp2_with fail
    refine (HPL.out _ (HG1.out.trans HG3.out)).mono ?_
    rintro e w4 ⟨rfl, g4⟩
    have HO4 := Lib.hid (HO3.out.keep g4)
    have HG4 : Hid (Grows w1 w4) := HG3.out.trans g4
    clear g4 hb3
    have HAT : Hid (LnsAt w4 (some ⟨g, 0, none⟩) ls) := by
      have h := HO4.out
      rw [← HN.out] at h
      exact OwnL.at h
    by_cases hck : cv = k
    · obtain rfl : k = cv := hck.symm
      have hnk : n = k := by omega
      have HNEW : Hid (∀ w7, Grows w4 w7 → ∀ j u, (lcells (ls.drop k))[j]? = some u → w7.cell? ((⟨g, 0, none⟩ : Addr).add j) = some u) := fun w7 _ j u hj => by
        rw [List.drop_eq_nil_of_le (by rw [HN.out]; omega)] at hj
        simp [lcells] at hj
      have hwk : IntKind.i64.wrap (k : Int) = (k : Int) := IntWalk.i64_in _ (by omega)
      go_wp2_with fail
      refine wp_region_M 18 (CellsAre []) (by kernel_rfl) (by kernel_rfl) trivial (fun hB hS => ?_)
      refine wpAnyM_take (i := 0) (v := ?vc0) hB rfl (by kernel_rfl) (fun _ _ _ h => h) (by rfl) ?yc0 hS ?nc0
      case yc0 => (intro w9 _; go_simp; try with_reducible rfl)
      refine wpAnyM_take (i := 1) (v := ?vc1) hB rfl (by kernel_rfl) (fun _ _ _ h => h) (by rfl) ?yc1 hS ?nc1
      case yc1 => (intro w9 _; go_simp; try with_reducible rfl)
      refine wpAnyM_take (i := 2) (v := .int .i64 (k : Int)) hB rfl (by kernel_rfl) (fun _ _ _ h => h) (by rfl) ?yc2 hS ?nc2
      case yc2 => (intro w9 _; go_simp; first | done | rw [hwk] | simp [hwk])
      refine wpAnyM_take (i := 3) (v := ?vc3) hB rfl (by kernel_rfl) (fun _ _ _ h => h) (by rfl) ?yc3 hS ?nc3
      case yc3 => (intro w9 _; go_simp; try with_reducible rfl)
      refine wpAnyM_take (i := 5) (v := ?vc5) hB rfl (by kernel_rfl) (fun _ _ _ h => h) (by rfl) ?yc5 hS ?nc5
      case yc5 => (intro w9 _; go_simp; try with_reducible rfl)
      refine wpAnyM_take (i := 6) (v := ?vc6) hB rfl (by kernel_rfl) (fun _ _ _ h => h) (by rfl) ?yc6 hS ?nc6
      case yc6 => (intro w9 _; go_simp; try with_reducible rfl)
      refine wpAnyM_take (i := 10) (v := ?vc10) hB rfl (by kernel_rfl) (fun _ _ _ h => h) (by rfl) ?yc10 hS ?nc10
      case yc10 => (intro w9 _; go_simp; try with_reducible rfl)
      refine wpAnyM_take (i := 11) (v := ?vc11) hB rfl (by kernel_rfl) (fun _ _ _ h => h) (by rfl) ?yc11 hS ?nc11
      case yc11 => (intro w9 _; go_simp; try with_reducible rfl)
      refine wpAnyM_take (i := 12) (v := .int .i64 (k : Int)) hB rfl (by kernel_rfl) (fun _ _ _ h => h) (by rfl) ?yc12 hS ?nc12
      case yc12 => (intro w9 _; go_simp; first | done | rw [hwk] | simp [hwk])
      refine wpAnyM_take (i := 13) (v := ?vc13) hB rfl (by kernel_rfl) (fun _ _ _ h => h) (by rfl) ?yc13 hS ?nc13
      case yc13 => (intro w9 _; go_simp; try with_reducible rfl)
      clear hS
      refine wpAnyM_one (i := 4) rfl (by kernel_rfl) rfl ?_
      go_wp2_with fail
      refine (HCQ.out g k _ (show LnsAt w4.drew _ ls from HAT.out)).mono ?_
      rintro e w5 ⟨u, rfl, ho, g5⟩
      have G5 : Hid (Grows w4 w5) := (Grows.refl _).drew.trans g5
      have HO5 : Hid (OwnL w5 w4.heap.size u (ls.take k)) := ho
      clear g5 ho
      go_wp2_with fail
      refine ⟨trivial, ?_⟩
      refine wpAnyM_one (i := 7) rfl (by kernel_rfl) rfl ?_
      go_wp2_with fail
      refine (newPair_any key v _).mono ?_
      rintro e w6 ⟨rfl, g6⟩
      have G6 : Hid (Grows w4 w6) := G5.out.trans g6
      have HO6 := Lib.hid (HO5.out.keep g6)
      clear g6
      go_wp2_with fail
      refine ⟨trivial, ?_⟩
      refine wpAnyM_one (i := 8) rfl (by kernel_rfl) rfl ?_
      go_wp2_with fail
      refine ⟨trivial, ?_⟩
      refine wpAnyM_one (i := 9) rfl (by kernel_rfl) rfl ?_
      refine appLm rfl (.tmp 80) (.tmp 84) rfl w4.heap.size u (ls.take k) (by simp [Act.eval]) (HO6.out.keep ((Grows.refl _).alloc _)) ⟨w6.heap.size, 0, none⟩ 1 1 [pairL key v] (by simp [Act.eval]) rfl (one_newsA _ _ _ rfl) (by rw [HTK.out]; omega) (by omega) (Nat.le_trans G6.out.size (by simp)) ?_
      intro v7 w7 HO7 HGB
      have G7 : Hid (Grows w4 w7) := (G6.out.alloc _).mark HGB.out (fun k hk => (HO6.out.lt k hk).1)
      clear HGB
      go_wp2_with fail
      refine ⟨trivial, ?_⟩
      refine wpAnyM_one (i := 14) rfl (by kernel_rfl) rfl ?_
      refine appLm rfl (.tmp 85) (.tmp 89) rfl w4.heap.size v7 (ls.take k ++ [pairL key v]) (by simp [Act.eval]) HO7.out ⟨g, 0, none⟩ (n - k) (k - k) (ls.drop k) (by simp [Act.eval] <;> omega) HDK.out (HNEW.out w7 G7.out) (by rw [List.length_append, HTK.out]; simp; omega) (by omega) G7.out.size ?_
      intro v8 w8 HO8 HGB
      have G8 : Hid (Grows w4 w8) := G7.out.mark HGB.out (fun k hk => (HO7.out.lt k hk).1)
      rw [HPE.out] at HO8
      clear HGB
      go_wp2_with fail
      refine ⟨trivial, ?_⟩
      refine wpAnyM_one (i := 15) rfl (by kernel_rfl) rfl ?_
      go_wp2_with fail
      refine (HCK.out _ _ _ HO8.out).mono ?_
      rintro e w9 ⟨u, rfl, ho, g9⟩
      have G9 : Hid (Grows w1 w9) := HG4.out.trans (G8.out.trans g9)
      have HOE : Hid (OwnL w9 w1.heap.size _ (chkL R)) := ho.less HG4.out.size
      obtain ⟨A5, n5, c5, hv5⟩ := ho.form3
      subst hv5
      clear g9 ho
      go_wp2_with fail
      refine ⟨trivial, ?_⟩
      have hS : CellsAre [] w9 := trivial
      refine wpAnyM_take (i := 16) (v := ?vcz16) hB rfl (by kernel_rfl) (fun _ _ _ h => h) (by rfl) ?ycz16 hS ?ncz16
      case ycz16 => (intro w9 _; go_simp; try with_reducible rfl)
      refine wpAnyM_take (i := 17) (v := ?vcz17) hB rfl (by kernel_rfl) (fun _ _ _ h => h) (by rfl) ?ycz17 hS ?ncz17
      case ycz17 => (intro w9 _; go_simp; try with_reducible rfl)
      refine wpAnyM_tail (by kernel_rfl) ?_
      clear hS hB
      have HG0E : Hid (Grows ((w.alloc (fbox A n c)).alloc (fbox none 0 0)) w9) := HG01.out.trans G9.out
      have h1 : w9.cell? ⟨w.heap.size + 1, 0, none⟩ = some (.slice none 0 0) := (HG0E.out.cell (p := ⟨w.heap.size + 1, 0, none⟩) (by simp)).trans (by simp [fbox])
      have h2 : w9.frozen? ⟨w.heap.size + 1, 0, none⟩ = false := (HG0E.out.frozen (p := ⟨w.heap.size + 1, 0, none⟩) (by simp)).trans (by simp [fbox])
      have hs1 : w.heap.size + 1 < w1.heap.size := Nat.lt_of_lt_of_le (by simp) HG01.out.size
      go_wp2
      refine bodyPost_ret (v := .tuple #[.agg #[.slice A5 n5 c5], .bool β]) (by simp [results, Try.results9, go_sem, h1]) rfl ?_
      rw [HV.out, HB.out]
      exact ⟨_, rfl, (HOE.out.setOther hs1 _).less HG1.out.size, (HG1.out.trans G9.out).setCell (by simp) _⟩
    · have HNEW : Hid (∀ w7, Grows w4 w7 → ∀ j u, (lcells (ls.drop k))[j]? = some u → w7.cell? ((⟨g, k * 6, none⟩ : Addr).add j) = some u) := fun w7 g7 j u hj => by
        rcases Nat.lt_or_ge k n with hlt | hge
        · obtain ⟨bd, od, hde, hbd, hcd⟩ := (HAT.out.keep g7).drop k (by rw [HDK.out]; omega)
          injection hde with hde
          injection hde with hde1 hde2
          subst hde1
          subst hde2
          have h9 := LnsAt.cells hcd j u hj
          rw [Nat.zero_add] at h9
          exact h9
        · rw [List.drop_eq_nil_of_le (by rw [HN.out]; omega)] at hj
          simp [lcells] at hj
      have hck2 : ¬ k = cv := fun e => hck e.symm
      have hkc : k ≤ cv := by omega
      have hwk : IntKind.i64.wrap (k : Int) = (k : Int) := IntWalk.i64_in _ (by omega)
      go_wp2_with fail
      refine wp_region_M 18 (CellsAre []) (by kernel_rfl) (by kernel_rfl) trivial (fun hB hS => ?_)
      refine wpAnyM_take (i := 0) (v := ?vd0) hB rfl (by kernel_rfl) (fun _ _ _ h => h) (by rfl) ?yd0 hS ?nd0
      case yd0 => (intro w9 _; go_simp; try with_reducible rfl)
      refine wpAnyM_take (i := 1) (v := ?vd1) hB rfl (by kernel_rfl) (fun _ _ _ h => h) (by rfl) ?yd1 hS ?nd1
      case yd1 => (intro w9 _; go_simp; try with_reducible rfl)
      refine wpAnyM_take (i := 2) (v := .int .i64 (k : Int)) hB rfl (by kernel_rfl) (fun _ _ _ h => h) (by rfl) ?yd2 hS ?nd2
      case yd2 => (intro w9 _; go_simp; first | done | rw [hwk] | simp [hwk])
      refine wpAnyM_take (i := 3) (v := ?vd3) hB rfl (by kernel_rfl) (fun _ _ _ h => h) (by rfl) ?yd3 hS ?nd3
      case yd3 => (intro w9 _; go_simp; try with_reducible rfl)
      refine wpAnyM_take (i := 5) (v := ?vd5) hB rfl (by kernel_rfl) (fun _ _ _ h => h) (by rfl) ?yd5 hS ?nd5
      case yd5 => (intro w9 _; go_simp; try with_reducible rfl)
      refine wpAnyM_take (i := 6) (v := ?vd6) hB rfl (by kernel_rfl) (fun _ _ _ h => h) (by rfl) ?yd6 hS ?nd6
      case yd6 => (intro w9 _; go_simp; try with_reducible rfl)
      refine wpAnyM_take (i := 10) (v := ?vd10) hB rfl (by kernel_rfl) (fun _ _ _ h => h) (by rfl) ?yd10 hS ?nd10
      case yd10 => (intro w9 _; go_simp; try with_reducible rfl)
      refine wpAnyM_take (i := 11) (v := ?vd11) hB rfl (by kernel_rfl) (fun _ _ _ h => h) (by rfl) ?yd11 hS ?nd11
      case yd11 => (intro w9 _; go_simp; try with_reducible rfl)
      refine wpAnyM_take (i := 12) (v := .int .i64 (k : Int)) hB rfl (by kernel_rfl) (fun _ _ _ h => h) (by rfl) ?yd12 hS ?nd12
      case yd12 => (intro w9 _; go_simp; first | done | rw [hwk] | simp [hwk])
      refine wpAnyM_take (i := 13) (v := ?vd13) hB rfl (by kernel_rfl) (fun _ _ _ h => h) (by rfl) ?yd13 hS ?nd13
      case yd13 => (intro w9 _; go_simp; try with_reducible rfl)
      clear hS
      refine wpAnyM_one (i := 4) rfl (by kernel_rfl) rfl ?_
      go_wp2_with fail
      refine (HCQ.out g cv _ (show LnsAt w4.drew _ ls from HAT.out)).mono ?_
      rintro e w5 ⟨u, rfl, ho, g5⟩
      have G5 : Hid (Grows w4 w5) := (Grows.refl _).drew.trans g5
      have HO5 : Hid (OwnL w5 w4.heap.size u (ls.take k)) := ho
      clear g5 ho
      go_wp2_with fail
      refine ⟨trivial, ?_⟩
      refine wpAnyM_one (i := 7) rfl (by kernel_rfl) rfl ?_
      go_wp2_with fail
      refine (newPair_any key v _).mono ?_
      rintro e w6 ⟨rfl, g6⟩
      have G6 : Hid (Grows w4 w6) := G5.out.trans g6
      have HO6 := Lib.hid (HO5.out.keep g6)
      clear g6
      go_wp2_with fail
      refine ⟨trivial, ?_⟩
      refine wpAnyM_one (i := 8) rfl (by kernel_rfl) rfl ?_
      go_wp2_with fail
      refine ⟨trivial, ?_⟩
      refine wpAnyM_one (i := 9) rfl (by kernel_rfl) rfl ?_
      refine appLm rfl (.tmp 80) (.tmp 84) rfl w4.heap.size u (ls.take k) (by simp [Act.eval]) (HO6.out.keep ((Grows.refl _).alloc _)) ⟨w6.heap.size, 0, none⟩ 1 1 [pairL key v] (by simp [Act.eval]) rfl (one_newsA _ _ _ rfl) (by rw [HTK.out]; omega) (by omega) (Nat.le_trans G6.out.size (by simp)) ?_
      intro v7 w7 HO7 HGB
      have G7 : Hid (Grows w4 w7) := (G6.out.alloc _).mark HGB.out (fun k hk => (HO6.out.lt k hk).1)
      clear HGB
      go_wp2_with fail
      refine ⟨trivial, ?_⟩
      refine wpAnyM_one (i := 14) rfl (by kernel_rfl) rfl ?_
      refine appLm rfl (.tmp 85) (.tmp 89) rfl w4.heap.size v7 (ls.take k ++ [pairL key v]) (by simp [Act.eval]) HO7.out ⟨g, k * 6, none⟩ (n - k) (cv - k) (ls.drop k) (by simp [Act.eval] <;> omega) HDK.out (HNEW.out w7 G7.out) (by rw [List.length_append, HTK.out]; simp; omega) (by omega) G7.out.size ?_
      intro v8 w8 HO8 HGB
      have G8 : Hid (Grows w4 w8) := G7.out.mark HGB.out (fun k hk => (HO7.out.lt k hk).1)
      rw [HPE.out] at HO8
      clear HGB
      go_wp2_with fail
      refine ⟨trivial, ?_⟩
      refine wpAnyM_one (i := 15) rfl (by kernel_rfl) rfl ?_
      go_wp2_with fail
      refine (HCK.out _ _ _ HO8.out).mono ?_
      rintro e w9 ⟨u, rfl, ho, g9⟩
      have G9 : Hid (Grows w1 w9) := HG4.out.trans (G8.out.trans g9)
      have HOE : Hid (OwnL w9 w1.heap.size _ (chkL R)) := ho.less HG4.out.size
      obtain ⟨A5, n5, c5, hv5⟩ := ho.form3
      subst hv5
      clear g9 ho
      go_wp2_with fail
      refine ⟨trivial, ?_⟩
      have hS : CellsAre [] w9 := trivial
      refine wpAnyM_take (i := 16) (v := ?vdz16) hB rfl (by kernel_rfl) (fun _ _ _ h => h) (by rfl) ?ydz16 hS ?ndz16
      case ydz16 => (intro w9 _; go_simp; try with_reducible rfl)
      refine wpAnyM_take (i := 17) (v := ?vdz17) hB rfl (by kernel_rfl) (fun _ _ _ h => h) (by rfl) ?ydz17 hS ?ndz17
      case ydz17 => (intro w9 _; go_simp; try with_reducible rfl)
      refine wpAnyM_tail (by kernel_rfl) ?_
      clear hS hB
      have HG0E : Hid (Grows ((w.alloc (fbox A n c)).alloc (fbox none 0 0)) w9) := HG01.out.trans G9.out
      have h1 : w9.cell? ⟨w.heap.size + 1, 0, none⟩ = some (.slice none 0 0) := (HG0E.out.cell (p := ⟨w.heap.size + 1, 0, none⟩) (by simp)).trans (by simp [fbox])
      have h2 : w9.frozen? ⟨w.heap.size + 1, 0, none⟩ = false := (HG0E.out.frozen (p := ⟨w.heap.size + 1, 0, none⟩) (by simp)).trans (by simp [fbox])
      have hs1 : w.heap.size + 1 < w1.heap.size := Nat.lt_of_lt_of_le (by simp) HG01.out.size
      go_wp2
      refine bodyPost_ret (v := .tuple #[.agg #[.slice A5 n5 c5], .bool β]) (by simp [results, Try.results9, go_sem, h1]) rfl ?_
      rw [HV.out, HB.out]
      exact ⟨_, rfl, (HOE.out.setOther hs1 _).less HG1.out.size, (HG1.out.trans G9.out).setCell (by simp) _⟩

theorem specSet_any (A : Option Addr) (c : Nat) (ls : List Ln) (s key v : ByteArray) (w : World) (hf : AllFit ls) (hs : s.size ≤ 1048576) (hk : key.size ≤ 1048576) (hv : v.size ≤ 1048576) (hA : LnsAt w A ls) :
    Calls Try.prog 9 #[.agg #[.slice A ls.length c], .string s, .string key, .string v] w (ResLB (setL ls s key v) (setB ls s key v) w) := by
  rcases h : setOk ls s key v with _ | _
  · exact specSet_bad A c ls s key v w hf hs hk hv hA h
  · by_cases hp : lastP ls s key ls.length < 0
    · by_cases hpl : placeTo ls s ls.length = -2
      · exact specSet_sec A c ls s key v w hf hs hk hv hA h hp hpl
      · exact specSet_new A c ls s key v w hf hs hk hv hA h hp (placeTo ls s ls.length + 1).toNat (by have := (placeTo_lt ls s ls.length).2.1; omega)
    · exact specSet_old A c ls s key v w hf hs hk hv hA h (lastP ls s key ls.length).toNat (by omega)
end Go.Proofs.Ytclopcbpelhiaaa
