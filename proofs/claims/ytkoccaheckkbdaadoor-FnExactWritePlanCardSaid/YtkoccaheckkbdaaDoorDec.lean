/- Decimal numerals: the walk of the specification's l1decimal. -/
import Derived.Test.YtkoccaheckkbdaaDoorPlain
import Derived.Lib.ItoaMem
import Derived.Deep.LoopGhost
namespace Go.Proofs.YtkoccaheckkbdaaDoor
open Go.RowKit

theorem hidd {p : Prop} (h : p) : Hid p := h
theorem nDigits_le : ∀ (k u : Nat), u < 10 ^ (k + 1) → Lib.nDigits u ≤ k + 1
  | 0, u, h => by rw [Lib.nDigits_small (by simpa using h)]; exact Nat.le_refl _
  | k + 1, u, h => by
    by_cases hu : u < 10
    · rw [Lib.nDigits_small hu]; omega
    · rw [Lib.nDigits_big hu]
      rw [Nat.pow_succ] at h
      have := nDigits_le k (u / 10) (by omega)
      omega
theorem dec_len (u : Nat) (h : u ≤ 9223372036854775808) : (Lib.decDigits u).length ≤ 19 := by
  rw [Lib.decDigits_length]; exact nDigits_le 18 u (by omega)
theorem itoa_len (n : Int) (h0 : -9223372036854775808 ≤ n) (h1 : n ≤ 9223372036854775807) : (Lib.itoa n).length ≤ 20 := by
  unfold Lib.itoa
  split
  · have := dec_len n.natAbs (by omega); simp only [List.length_cons]; omega
  · have := dec_len n.toNat (by omega); omega

/-- The digits that are still to come. -/
def dd (q : Nat) : List UInt8 := if q = 0 then [] else Lib.decDigits q
theorem dd_step (q : Nat) (h : 1 ≤ q) : dd q = dd (q / 10) ++ [UInt8.ofNat (48 + q % 10)] := by
  unfold dd
  rw [if_neg (by omega)]
  by_cases hq : q < 10
  · rw [if_pos (by omega), Lib.decDigits_one hq, Nat.mod_eq_of_lt hq]; rfl
  · rw [if_neg (by omega), Lib.decDigits, dif_neg hq]
def byteV (c : UInt8) : Value := .int .u8 c.toNat
theorem digit_byte (q : Nat) : (UInt8.ofNat (48 + q % 10)).toNat = 48 + q % 10 := by
  rw [UInt8.toNat_ofNat']; omega
/-- A text by its bytes. -/
def str (l : List UInt8) : ByteArray := ⟨l.toArray⟩
theorem str_append (a b : List UInt8) : str a ++ str b = str (a ++ b) := by
  apply ByteArray.ext
  simp [str]
theorem str_size (l : List UInt8) : (str l).size = l.length := by simp [str, ByteArray.size]
theorem byte_str {P : Program} (w : World) (src dst e : TypeId) (hs : P.underlying src = some (.slice e)) (he : P.underlying e = some (.int .u8)) (hd : P.underlying dst = some .string) (c : UInt8) :
    (convert src dst (.slice (some ⟨w.heap.size, 0, none⟩) 1 1)).run P (w.alloc (.cells #[.int .u8 c.toNat] e)) = .ok (.string (str [c])) (w.alloc (.cells #[.int .u8 c.toNat] e)) := by
  have h := run_convert_bytes_arg (P := P) (w.alloc (.cells #[.int .u8 c.toNat] e)) src e hs he w.heap.size 0 1 1 [(c.toNat : Int)] rfl (by
    intro i hi
    obtain rfl : i = 0 := by omega
    simp) dst hd
  rw [h]
  have : strOfNums [(c.toNat : Int)] = str [c] := by simp [strOfNums, str]
  rw [this]
theorem info_byte : (Tryd.prog.info? 5).map (fun i => (i.zero, i.size, i.bytes)) = some (some (.int .u8 0), 1, 1) := by kernel_rfl

set_option maxHeartbeats 1000000 in
set_option maxRecDepth 100000 in
theorem l1decimal_pos (N : Nat) (hN : 1 ≤ N) (h1 : N ≤ 9223372036854775807) (w : World) :
    Calls Tryd.prog 20 #[.int .i64 ((N : Int))] w fun e w' => e = .returned (.string ⟨([] ++ Lib.decDigits N).toArray⟩) ∧ Below w.heap.size w w' := by
  obtain ⟨i0, hi, hz0, hz1, hz2⟩ := info_parts info_byte
  have hlen := dec_len N (by omega)
  have hpos : 1 ≤ (Lib.decDigits N).length := by rw [Lib.decDigits_length]; exact Lib.nDigits_pos N
  obtain ⟨D, hD⟩ : ∃ D, Lib.decDigits N = D := ⟨_, rfl⟩
  have HD := hidd hD
  rw [hD] at hlen hpos ⊢
  clear hD
  have hsg : decide ((N : Int) < 0) = false := by simp; try omega
  have hnz : ((N : Int) == 0) = false := by simp; omega
  go_enter Tryd.func20, Tryd.ntmps20
  go_wp2_with fail
  go_loopg [0, 4] N (fun r a v wr => ∃ (q : Nat) (ds : List UInt8), a = .int .i64 ((q : Int)) ∧ Hid (r = q) ∧ q ≤ 9223372036854775807 ∧ wr.ownsRow w.heap.size 5 1 v ds.length (ds.map byteV) ∧ Hid (dd q ++ ds.reverse = D) ∧ Below w.heap.size w wr)
  case atStart => exact ⟨N, [], rfl, rfl, h1, World.ownsRow_nil _ _ _ _, by show _ = _; unfold dd; rw [if_neg (by omega), HD.out]; simp, Below.refl _ _⟩
  case round =>
    obtain ⟨q, ds, rfl, HQ, hq, hown, HE, hb⟩ := hrel
    have hdl : ds.length ≤ 19 := by have := congrArg List.length HE.out; simp at this; omega
    by_cases hq0 : q = 0
    · subst hq0
      have HE2 : Hid (ds.reverse = D) := HE.out
      have hdp : 1 ≤ ds.length := by have := congrArg List.length HE2.out; simp at this; omega
      obtain ⟨g, cap, rfl⟩ : ∃ g cap, u4 = .slice (some ⟨g, 0, none⟩) ds.length cap := by
        rcases hown.2 with ⟨_, h⟩ | ⟨g, cap, cur, hv, _⟩
        · omega
        · exact ⟨g, cap, hv⟩
      have hgl : g < wr.heap.size := (hown.lt g rfl).2
      have hcell := hown.cellAt
      go_wp2_with fail
      go_loopg [6, 7] ds.length (fun r o i wx => ∃ (k : Nat) (x : Int), k ≤ ds.length ∧ Hid (r + k = ds.length) ∧ i = .int .i64 x ∧ Hid (x = (ds.length : Int) - 1 - k) ∧ (∃ O : ByteArray, o = .string O ∧ O.size ≤ 1 + k ∧ Hid (O = str ([] ++ ds.reverse.take k))) ∧ Below wr.heap.size wr wx)
      case atStart => exact ⟨0, _, Nat.zero_le _, rfl, rfl, by show _ = _; omega, ⟨_, rfl, by decide, by show _ = _; simp [str]⟩, Below.refl _ _⟩
      case round =>
        obtain ⟨k, x, hk, HK, rfl, HX, ⟨O, rfl, hO, HO⟩, hbx⟩ := hrel
        by_cases hkl : k < ds.length
        · obtain ⟨j, rfl⟩ : ∃ j : Nat, x = j := ⟨x.toNat, by have := HX.out; omega⟩
          have hjl : j < ds.length := by have := HX.out; omega
          obtain ⟨c, hcd⟩ : ∃ c, ds[j] = c := ⟨_, rfl⟩
          have cj : wr.cell? ⟨g, j, none⟩ = some (.int .u8 c.toNat) := by
            rw [hbx.cell (p := ⟨g, j, none⟩) hgl, hcell j (by omega)]; simp [hjl, byteV, hcd]
          have HT : Hid (ds.reverse.take (k + 1) = ds.reverse.take k ++ [c]) := by
            show _ = _
            rw [List.take_succ_eq_append_getElem (by simp; omega), List.getElem_reverse]
            have hx := HX.out
            have e : ds.length - 1 - k = j := by omega
            simp only [e, hcd]
          clear hcell hcd
          have hcv := byte_str (P := Tryd.prog) wr 52 9 5 Tryd.underlying52 Tryd.underlying5 Tryd.underlying9 c
          have hs1 : (str [c]).size = 1 := rfl
          go_wp2_with fail
          go_roundg (ds.length - (k + 1))
          case measure => have := HK.out; omega
          case rel => exact ⟨k + 1, _, by omega, by show _ = _; omega, rfl, by show _ = _; have := HX.out; omega, ⟨_, rfl, by rw [ByteArray.size_append, hs1]; omega, by show _ = _; rw [HO.out, HT.out, str_append, List.append_assoc]⟩, bel_alloc hbx _⟩
        · have hx : x < 0 := by have := HX.out; omega
          go_wp2_with fail
          go_ret
          refine ⟨?_, bel_trans hb hbx⟩
          have hO2 := HO.out
          rw [List.take_of_length_le (by simp; omega), HE2.out] at hO2
          subst hO2
          rfl
    · skip
      go_wp2_with (at_builtin; refine wpList_append_own _ rfl _ _ 52 rfl w.heap.size 5 i0 (.int .u8 0) 1 1 Tryd.underlying52 hi hz0 hz1 hz2 rfl (by decide) _ _ _ rfl (hown.alloc _) ⟨wr.heap.size, 0, none⟩ 1 1 [.int .u8 (48 + (q : Int) % 10)] rfl rfl ?c1 ?c2 ?c3 ?c4 ?c5 ?_)
      case c1 =>
        intro j u hj
        match j, hj with
        | 0, hj => simp at hj; subst hj; simp [Addr.add]
      case c2 => intro u hu; simp at hu; subst hu; rfl
      case c3 => unfold maxLen; omega
      case c4 => omega
      case c5 => have := hb.size; simp; omega
      · intro v' w1 hown' hgrow _
        go_wp2_with fail
        go_roundg (q / 10)
        case measure => have := HQ.out; omega
        case rel =>
          refine ⟨q / 10, ds ++ [UInt8.ofNat (48 + q % 10)], by simp only [Value.int.injEq, true_and]; omega, rfl, by omega, ?_, ?_, ?_⟩
          · have e : byteV (UInt8.ofNat (48 + q % 10)) = .int .u8 (48 + (q : Int) % 10) := by unfold byteV; rw [digit_byte]; simp only [Value.int.injEq, true_and]; omega
            rw [List.length_append, List.map_append, List.map_cons, List.map_nil, e]
            exact hown'
          · show _ = _
            rw [← HE.out, dd_step q (by omega)]; simp
          · exact (hb.alloc hb.size _).grown hgrow (by have := hb.size; simp; omega) (fun k hk => (hown.lt k hk).1)

set_option maxHeartbeats 1000000 in
set_option maxRecDepth 100000 in
theorem l1decimal_neg (N : Nat) (hN : 1 ≤ N) (h1 : N ≤ 9223372036854775808) (w : World) :
    Calls Tryd.prog 20 #[.int .i64 (-(N : Int))] w fun e w' => e = .returned (.string ⟨([45] ++ Lib.decDigits N).toArray⟩) ∧ Below w.heap.size w w' := by
  obtain ⟨i0, hi, hz0, hz1, hz2⟩ := info_parts info_byte
  have hlen := dec_len N (by omega)
  have hpos : 1 ≤ (Lib.decDigits N).length := by rw [Lib.decDigits_length]; exact Lib.nDigits_pos N
  obtain ⟨D, hD⟩ : ∃ D, Lib.decDigits N = D := ⟨_, rfl⟩
  have HD := hidd hD
  rw [hD] at hlen hpos ⊢
  clear hD
  have hsg : decide (0 < N) = true := by simp; try omega
  have hnz : (-(N : Int) == 0) = false := by simp; omega
  go_enter Tryd.func20, Tryd.ntmps20
  go_wp2_with fail
  go_loopg [0, 4] N (fun r a v wr => ∃ (q : Nat) (ds : List UInt8), a = .int .i64 (-(q : Int)) ∧ Hid (r = q) ∧ q ≤ 9223372036854775808 ∧ wr.ownsRow w.heap.size 5 1 v ds.length (ds.map byteV) ∧ Hid (dd q ++ ds.reverse = D) ∧ Below w.heap.size w wr)
  case atStart => exact ⟨N, [], rfl, rfl, h1, World.ownsRow_nil _ _ _ _, by show _ = _; unfold dd; rw [if_neg (by omega), HD.out]; simp, Below.refl _ _⟩
  case round =>
    obtain ⟨q, ds, rfl, HQ, hq, hown, HE, hb⟩ := hrel
    have hdl : ds.length ≤ 19 := by have := congrArg List.length HE.out; simp at this; omega
    by_cases hq0 : q = 0
    · subst hq0
      have HE2 : Hid (ds.reverse = D) := HE.out
      have hdp : 1 ≤ ds.length := by have := congrArg List.length HE2.out; simp at this; omega
      obtain ⟨g, cap, rfl⟩ : ∃ g cap, u4 = .slice (some ⟨g, 0, none⟩) ds.length cap := by
        rcases hown.2 with ⟨_, h⟩ | ⟨g, cap, cur, hv, _⟩
        · omega
        · exact ⟨g, cap, hv⟩
      have hgl : g < wr.heap.size := (hown.lt g rfl).2
      have hcell := hown.cellAt
      go_wp2_with fail
      go_loopg [6, 7] ds.length (fun r o i wx => ∃ (k : Nat) (x : Int), k ≤ ds.length ∧ Hid (r + k = ds.length) ∧ i = .int .i64 x ∧ Hid (x = (ds.length : Int) - 1 - k) ∧ (∃ O : ByteArray, o = .string O ∧ O.size ≤ 1 + k ∧ Hid (O = str ([45] ++ ds.reverse.take k))) ∧ Below wr.heap.size wr wx)
      case atStart => exact ⟨0, _, Nat.zero_le _, rfl, rfl, by show _ = _; omega, ⟨_, rfl, by decide, by show _ = _; simp [str]⟩, Below.refl _ _⟩
      case round =>
        obtain ⟨k, x, hk, HK, rfl, HX, ⟨O, rfl, hO, HO⟩, hbx⟩ := hrel
        by_cases hkl : k < ds.length
        · obtain ⟨j, rfl⟩ : ∃ j : Nat, x = j := ⟨x.toNat, by have := HX.out; omega⟩
          have hjl : j < ds.length := by have := HX.out; omega
          obtain ⟨c, hcd⟩ : ∃ c, ds[j] = c := ⟨_, rfl⟩
          have cj : wr.cell? ⟨g, j, none⟩ = some (.int .u8 c.toNat) := by
            rw [hbx.cell (p := ⟨g, j, none⟩) hgl, hcell j (by omega)]; simp [hjl, byteV, hcd]
          have HT : Hid (ds.reverse.take (k + 1) = ds.reverse.take k ++ [c]) := by
            show _ = _
            rw [List.take_succ_eq_append_getElem (by simp; omega), List.getElem_reverse]
            have hx := HX.out
            have e : ds.length - 1 - k = j := by omega
            simp only [e, hcd]
          clear hcell hcd
          have hcv := byte_str (P := Tryd.prog) wr 52 9 5 Tryd.underlying52 Tryd.underlying5 Tryd.underlying9 c
          have hs1 : (str [c]).size = 1 := rfl
          go_wp2_with fail
          go_roundg (ds.length - (k + 1))
          case measure => have := HK.out; omega
          case rel => exact ⟨k + 1, _, by omega, by show _ = _; omega, rfl, by show _ = _; have := HX.out; omega, ⟨_, rfl, by rw [ByteArray.size_append, hs1]; omega, by show _ = _; rw [HO.out, HT.out, str_append, List.append_assoc]⟩, bel_alloc hbx _⟩
        · have hx : x < 0 := by have := HX.out; omega
          go_wp2_with fail
          go_ret
          refine ⟨?_, bel_trans hb hbx⟩
          have hO2 := HO.out
          rw [List.take_of_length_le (by simp; omega), HE2.out] at hO2
          subst hO2
          rfl
    by_cases hm : (q : Int) % 10 = 0
    · skip
      go_wp2_with (at_builtin; refine wpList_append_own _ rfl _ _ 52 rfl w.heap.size 5 i0 (.int .u8 0) 1 1 Tryd.underlying52 hi hz0 hz1 hz2 rfl (by decide) _ _ _ rfl (hown.alloc _) ⟨wr.heap.size, 0, none⟩ 1 1 [.int .u8 (48)] rfl rfl ?c1 ?c2 ?c3 ?c4 ?c5 ?_)
      case c1 =>
        intro j u hj
        match j, hj with
        | 0, hj => simp at hj; subst hj; simp [Addr.add]
      case c2 => intro u hu; simp at hu; subst hu; rfl
      case c3 => unfold maxLen; omega
      case c4 => omega
      case c5 => have := hb.size; simp; omega
      · intro v' w1 hown' hgrow _
        go_wp2_with fail
        go_roundg (q / 10)
        case measure => have := HQ.out; omega
        case rel =>
          refine ⟨q / 10, ds ++ [UInt8.ofNat (48 + q % 10)], by simp only [Value.int.injEq, true_and]; omega, rfl, by omega, ?_, ?_, ?_⟩
          · have e : byteV (UInt8.ofNat (48 + q % 10)) = .int .u8 (48) := by unfold byteV; rw [digit_byte]; simp only [Value.int.injEq, true_and]; omega
            rw [List.length_append, List.map_append, List.map_cons, List.map_nil, e]
            exact hown'
          · show _ = _
            rw [← HE.out, dd_step q (by omega)]; simp
          · exact (hb.alloc hb.size _).grown hgrow (by have := hb.size; simp; omega) (fun k hk => (hown.lt k hk).1)
    · have hm1 : 0 < (q : Int) % 10 := by omega
      go_wp2_with (at_builtin; refine wpList_append_own _ rfl _ _ 52 rfl w.heap.size 5 i0 (.int .u8 0) 1 1 Tryd.underlying52 hi hz0 hz1 hz2 rfl (by decide) _ _ _ rfl (hown.alloc _) ⟨wr.heap.size, 0, none⟩ 1 1 [.int .u8 (48 + (q : Int) % 10)] rfl rfl ?d1 ?d2 ?d3 ?d4 ?d5 ?_)
      case d1 =>
        intro j u hj
        match j, hj with
        | 0, hj => simp at hj; subst hj; simp [Addr.add]
      case d2 => intro u hu; simp at hu; subst hu; rfl
      case d3 => unfold maxLen; omega
      case d4 => omega
      case d5 => have := hb.size; simp; omega
      · intro v' w1 hown' hgrow _
        go_wp2_with fail
        go_roundg (q / 10)
        case measure => have := HQ.out; omega
        case rel =>
          refine ⟨q / 10, ds ++ [UInt8.ofNat (48 + q % 10)], by simp only [Value.int.injEq, true_and]; omega, rfl, by omega, ?_, ?_, ?_⟩
          · have e : byteV (UInt8.ofNat (48 + q % 10)) = .int .u8 (48 + (q : Int) % 10) := by unfold byteV; rw [digit_byte]; simp only [Value.int.injEq, true_and]; omega
            rw [List.length_append, List.map_append, List.map_cons, List.map_nil, e]
            exact hown'
          · show _ = _
            rw [← HE.out, dd_step q (by omega)]; simp
          · exact (hb.alloc hb.size _).grown hgrow (by have := hb.size; simp; omega) (fun k hk => (hown.lt k hk).1)

theorem l1decimal_any (n : Int) (h0 : -9223372036854775808 ≤ n) (h1 : n ≤ 9223372036854775807) (w : World) :
    Calls Tryd.prog 20 #[.int .i64 n] w fun e w' => e = .returned (.string (str (Lib.itoa n))) ∧ Below w.heap.size w w' := by
  rcases Int.lt_trichotomy n 0 with h | rfl | h
  · obtain ⟨N, rfl⟩ : ∃ N : Nat, n = -(N : Int) := ⟨n.natAbs, by omega⟩
    rw [Lib.itoa_neg N (by omega)]
    exact l1decimal_neg N (by omega) (by omega) w
  · go_enter Tryd.func20, Tryd.ntmps20
    go_wp2_with fail
    go_ret
    exact ⟨by simp [Lib.itoa, Lib.decDigits_one, str], Below.refl _ _⟩
  · obtain ⟨N, rfl⟩ : ∃ N : Nat, n = (N : Int) := ⟨n.natAbs, by omega⟩
    rw [Lib.itoa_nonneg N]
    exact l1decimal_pos N (by omega) (by omega) w

end Go.Proofs.YtkoccaheckkbdaaDoor
