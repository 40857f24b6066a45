/- A step as a line: the walk of the specification's l1line. -/
import Derived.Test.YtkoccaheckkbdaaDoorLine
namespace Go.Proofs.YtkoccaheckkbdaaDoor
open Go.RowKit

theorem name_size (o : Int) : (str (nameL o)).size ≤ 6 := by rw [str_size]; exact name_len o
theorem itoa_size (n : Int) (h0 : -9223372036854775808 ≤ n) (h1 : n ≤ 9223372036854775807) : (str (Lib.itoa n)).size ≤ 20 := by rw [str_size]; exact itoa_len n h0 h1

set_option maxRecDepth 100000 in
set_option maxHeartbeats 4000000 in
theorem l1line_any (o a b n s : Int) (w : World) (ho : 1 ≤ o ∧ o ≤ 15) (hf : Fit ⟨o, a, b, n, s⟩) :
    Calls Tryd.prog 35 #[.agg #[.int .i64 o, .int .i64 a, .int .i64 b, .int .i64 n, .int .i64 s]] w fun e w' => e = .returned (.string (str (lineL ⟨o, a, b, n, s⟩))) ∧ Below w.heap.size w w' := by
  obtain ⟨⟨a0, a1⟩, ⟨b0, b1⟩, n0, n1⟩ := hf
  simp only at a0 a1 b0 b1 n0 n1
  have sa := itoa_size a a0 a1
  have sb := itoa_size b b0 b1
  have sn := itoa_size n n0 n1
  have so := name_size o
  rcases op_cases o with rfl | rfl | rfl | rfl | rfl | rfl | rfl | rfl | rfl | rfl | rfl | rfl | rfl | rfl | rfl | h | h
  · go_enter Tryd.func35, Tryd.ntmps35
    go_wp2_with (first | (go_at_call 46; refine (l1name_any _ _ (by omega)).mono ?_; rintro e w1 ⟨rfl, hb1⟩; obtain ⟨hc1, _⟩ := bcell hb1; have hz1 : w.heap.size < w1.heap.size := (by have := hb1.size; simp at this; omega)) | (go_at_call 20; refine (l1decimal_any _ (by omega) (by omega) _).mono ?_; rintro e w2 ⟨rfl, hb2⟩; obtain ⟨hc2, _⟩ := bcell hb2; have hz2 := hb2.size))
    all_goals (go_ret; exact ⟨ret_str (by simp [str, lineL, wordsL, regL, Lib.join, List.intercalate, List.intersperse]), (by repeat (first | exact bel_one _ _ | refine bel_alloc ?_ _ | refine Below.drew ?_ | refine bel_trans ?_ (by assumption)))⟩)
  · go_enter Tryd.func35, Tryd.ntmps35
    go_wp2_with (first | (go_at_call 46; refine (l1name_any _ _ (by omega)).mono ?_; rintro e w1 ⟨rfl, hb1⟩; obtain ⟨hc1, _⟩ := bcell hb1; have hz1 : w.heap.size < w1.heap.size := (by have := hb1.size; simp at this; omega)) | (go_at_call 20; refine (l1decimal_any _ (by omega) (by omega) _).mono ?_; rintro e w2 ⟨rfl, hb2⟩; obtain ⟨hc2, _⟩ := bcell hb2; have hz2 := hb2.size))
    have y1 : w.heap.size < w2.heap.size := by omega
    have k2 : w2.cell? ⟨w.heap.size, 2, none⟩ = some (.int .i64 b) := by rw [hc2 _ _ hz1, hc1 _ _ (by simp)]; simp
    have k3 : w2.cell? ⟨w.heap.size, 3, none⟩ = some (.int .i64 n) := by rw [hc2 _ _ hz1, hc1 _ _ (by simp)]; simp
    clear hc1 hc2
    go_region_with (go_at_call 20; refine (l1decimal_any _ (by omega) (by omega) _).mono ?_; rintro e w3 ⟨rfl, hb3⟩; try (have k5 : w3.cell? ⟨w.heap.size, 3, none⟩ = some (.int .i64 n) := (hb3.cell (p := ⟨w.heap.size, 3, none⟩) y1).trans k3))
    all_goals (go_wp2_with fail)
    all_goals (go_ret; exact ⟨ret_str (by simp [str, lineL, wordsL, regL, Lib.join, List.intercalate, List.intersperse]), (by repeat (first | exact bel_one _ _ | refine bel_alloc ?_ _ | refine Below.drew ?_ | refine bel_trans ?_ (by assumption)))⟩)
  · go_enter Tryd.func35, Tryd.ntmps35
    go_wp2_with (first | (go_at_call 46; refine (l1name_any _ _ (by omega)).mono ?_; rintro e w1 ⟨rfl, hb1⟩; obtain ⟨hc1, _⟩ := bcell hb1; have hz1 : w.heap.size < w1.heap.size := (by have := hb1.size; simp at this; omega)) | (go_at_call 20; refine (l1decimal_any _ (by omega) (by omega) _).mono ?_; rintro e w2 ⟨rfl, hb2⟩; obtain ⟨hc2, _⟩ := bcell hb2; have hz2 := hb2.size))
    all_goals (go_ret; exact ⟨ret_str (by simp [str, lineL, wordsL, regL, Lib.join, List.intercalate, List.intersperse]), (by repeat (first | exact bel_one _ _ | refine bel_alloc ?_ _ | refine Below.drew ?_ | refine bel_trans ?_ (by assumption)))⟩)
  · go_enter Tryd.func35, Tryd.ntmps35
    go_wp2_with (first | (go_at_call 46; refine (l1name_any _ _ (by omega)).mono ?_; rintro e w1 ⟨rfl, hb1⟩; obtain ⟨hc1, _⟩ := bcell hb1; have hz1 : w.heap.size < w1.heap.size := (by have := hb1.size; simp at this; omega)) | (go_at_call 20; refine (l1decimal_any _ (by omega) (by omega) _).mono ?_; rintro e w2 ⟨rfl, hb2⟩; obtain ⟨hc2, _⟩ := bcell hb2; have hz2 := hb2.size))
    all_goals (go_ret; exact ⟨ret_str (by simp [str, lineL, wordsL, regL, Lib.join, List.intercalate, List.intersperse]), (by repeat (first | exact bel_one _ _ | refine bel_alloc ?_ _ | refine Below.drew ?_ | refine bel_trans ?_ (by assumption)))⟩)
  · go_enter Tryd.func35, Tryd.ntmps35
    go_wp2_with (first | (go_at_call 46; refine (l1name_any _ _ (by omega)).mono ?_; rintro e w1 ⟨rfl, hb1⟩; obtain ⟨hc1, _⟩ := bcell hb1; have hz1 : w.heap.size < w1.heap.size := (by have := hb1.size; simp at this; omega)) | (go_at_call 20; refine (l1decimal_any _ (by omega) (by omega) _).mono ?_; rintro e w2 ⟨rfl, hb2⟩; obtain ⟨hc2, _⟩ := bcell hb2; have hz2 := hb2.size))
    all_goals (go_ret; exact ⟨ret_str (by simp [str, lineL, wordsL, regL, Lib.join, List.intercalate, List.intersperse]), (by repeat (first | exact bel_one _ _ | refine bel_alloc ?_ _ | refine Below.drew ?_ | refine bel_trans ?_ (by assumption)))⟩)
  · go_enter Tryd.func35, Tryd.ntmps35
    go_wp2_with (first | (go_at_call 46; refine (l1name_any _ _ (by omega)).mono ?_; rintro e w1 ⟨rfl, hb1⟩; obtain ⟨hc1, _⟩ := bcell hb1; have hz1 : w.heap.size < w1.heap.size := (by have := hb1.size; simp at this; omega)) | (go_at_call 20; refine (l1decimal_any _ (by omega) (by omega) _).mono ?_; rintro e w2 ⟨rfl, hb2⟩; obtain ⟨hc2, _⟩ := bcell hb2; have hz2 := hb2.size))
    all_goals (go_ret; exact ⟨ret_str (by simp [str, lineL, wordsL, regL, Lib.join, List.intercalate, List.intersperse]), (by repeat (first | exact bel_one _ _ | refine bel_alloc ?_ _ | refine Below.drew ?_ | refine bel_trans ?_ (by assumption)))⟩)
  · go_enter Tryd.func35, Tryd.ntmps35
    go_wp2_with (first | (go_at_call 46; refine (l1name_any _ _ (by omega)).mono ?_; rintro e w1 ⟨rfl, hb1⟩; obtain ⟨hc1, _⟩ := bcell hb1; have hz1 : w.heap.size < w1.heap.size := (by have := hb1.size; simp at this; omega)) | (go_at_call 20; refine (l1decimal_any _ (by omega) (by omega) _).mono ?_; rintro e w2 ⟨rfl, hb2⟩; obtain ⟨hc2, _⟩ := bcell hb2; have hz2 := hb2.size))
    all_goals (go_ret; exact ⟨ret_str (by simp [str, lineL, wordsL, regL, Lib.join, List.intercalate, List.intersperse]), (by repeat (first | exact bel_one _ _ | refine bel_alloc ?_ _ | refine Below.drew ?_ | refine bel_trans ?_ (by assumption)))⟩)
  · go_enter Tryd.func35, Tryd.ntmps35
    go_wp2_with (first | (go_at_call 46; refine (l1name_any _ _ (by omega)).mono ?_; rintro e w1 ⟨rfl, hb1⟩; obtain ⟨hc1, _⟩ := bcell hb1; have hz1 : w.heap.size < w1.heap.size := (by have := hb1.size; simp at this; omega)) | (go_at_call 20; refine (l1decimal_any _ (by omega) (by omega) _).mono ?_; rintro e w2 ⟨rfl, hb2⟩; obtain ⟨hc2, _⟩ := bcell hb2; have hz2 := hb2.size))
    all_goals (go_ret; exact ⟨ret_str (by simp [str, lineL, wordsL, regL, Lib.join, List.intercalate, List.intersperse]), (by repeat (first | exact bel_one _ _ | refine bel_alloc ?_ _ | refine Below.drew ?_ | refine bel_trans ?_ (by assumption)))⟩)
  · go_enter Tryd.func35, Tryd.ntmps35
    go_wp2_with (first | (go_at_call 46; refine (l1name_any _ _ (by omega)).mono ?_; rintro e w1 ⟨rfl, hb1⟩; obtain ⟨hc1, _⟩ := bcell hb1; have hz1 : w.heap.size < w1.heap.size := (by have := hb1.size; simp at this; omega)) | (go_at_call 20; refine (l1decimal_any _ (by omega) (by omega) _).mono ?_; rintro e w2 ⟨rfl, hb2⟩; obtain ⟨hc2, _⟩ := bcell hb2; have hz2 := hb2.size))
    all_goals (go_ret; exact ⟨ret_str (by simp [str, lineL, wordsL, regL, Lib.join, List.intercalate, List.intersperse]), (by repeat (first | exact bel_one _ _ | refine bel_alloc ?_ _ | refine Below.drew ?_ | refine bel_trans ?_ (by assumption)))⟩)
  · go_enter Tryd.func35, Tryd.ntmps35
    go_wp2_with (first | (go_at_call 46; refine (l1name_any _ _ (by omega)).mono ?_; rintro e w1 ⟨rfl, hb1⟩; obtain ⟨hc1, _⟩ := bcell hb1; have hz1 : w.heap.size < w1.heap.size := (by have := hb1.size; simp at this; omega)) | (go_at_call 20; refine (l1decimal_any _ (by omega) (by omega) _).mono ?_; rintro e w2 ⟨rfl, hb2⟩; obtain ⟨hc2, _⟩ := bcell hb2; have hz2 := hb2.size))
    all_goals (go_ret; exact ⟨ret_str (by simp [str, lineL, wordsL, regL, Lib.join, List.intercalate, List.intersperse]), (by repeat (first | exact bel_one _ _ | refine bel_alloc ?_ _ | refine Below.drew ?_ | refine bel_trans ?_ (by assumption)))⟩)
  · go_enter Tryd.func35, Tryd.ntmps35
    go_wp2_with (first | (go_at_call 46; refine (l1name_any _ _ (by omega)).mono ?_; rintro e w1 ⟨rfl, hb1⟩; obtain ⟨hc1, _⟩ := bcell hb1; have hz1 : w.heap.size < w1.heap.size := (by have := hb1.size; simp at this; omega)) | (go_at_call 20; refine (l1decimal_any _ (by omega) (by omega) _).mono ?_; rintro e w2 ⟨rfl, hb2⟩; obtain ⟨hc2, _⟩ := bcell hb2; have hz2 := hb2.size))
    all_goals (go_ret; exact ⟨ret_str (by simp [str, lineL, wordsL, regL, Lib.join, List.intercalate, List.intersperse]), (by repeat (first | exact bel_one _ _ | refine bel_alloc ?_ _ | refine Below.drew ?_ | refine bel_trans ?_ (by assumption)))⟩)
  · go_enter Tryd.func35, Tryd.ntmps35
    go_wp2_with (first | (go_at_call 46; refine (l1name_any _ _ (by omega)).mono ?_; rintro e w1 ⟨rfl, hb1⟩; obtain ⟨hc1, _⟩ := bcell hb1; have hz1 : w.heap.size < w1.heap.size := (by have := hb1.size; simp at this; omega)) | (go_at_call 20; refine (l1decimal_any _ (by omega) (by omega) _).mono ?_; rintro e w2 ⟨rfl, hb2⟩; obtain ⟨hc2, _⟩ := bcell hb2; have hz2 := hb2.size))
    all_goals (go_ret; exact ⟨ret_str (by simp [str, lineL, wordsL, Lib.join, List.intercalate]), (by repeat (first | exact bel_one _ _ | refine bel_alloc ?_ _ | refine Below.drew ?_ | refine bel_trans ?_ (by assumption)))⟩)
  · go_enter Tryd.func35, Tryd.ntmps35
    go_wp2_with (first | (go_at_call 46; refine (l1name_any _ _ (by omega)).mono ?_; rintro e w1 ⟨rfl, hb1⟩; obtain ⟨hc1, _⟩ := bcell hb1; have hz1 : w.heap.size < w1.heap.size := (by have := hb1.size; simp at this; omega)) | (go_at_call 20; refine (l1decimal_any _ (by omega) (by omega) _).mono ?_; rintro e w2 ⟨rfl, hb2⟩; obtain ⟨hc2, _⟩ := bcell hb2; have hz2 := hb2.size))
    all_goals (go_ret; exact ⟨ret_str (by simp [str, lineL, wordsL, Lib.join, List.intercalate]), (by repeat (first | exact bel_one _ _ | refine bel_alloc ?_ _ | refine Below.drew ?_ | refine bel_trans ?_ (by assumption)))⟩)
  · go_enter Tryd.func35, Tryd.ntmps35
    go_wp2_with (first | (go_at_call 46; refine (l1name_any _ _ (by omega)).mono ?_; rintro e w1 ⟨rfl, hb1⟩; obtain ⟨hc1, _⟩ := bcell hb1; have hz1 : w.heap.size < w1.heap.size := (by have := hb1.size; simp at this; omega)) | (go_at_call 20; refine (l1decimal_any _ (by omega) (by omega) _).mono ?_; rintro e w2 ⟨rfl, hb2⟩; obtain ⟨hc2, _⟩ := bcell hb2; have hz2 := hb2.size))
    all_goals (go_ret; exact ⟨ret_str (by simp [str, lineL, wordsL, regL, Lib.join, List.intercalate, List.intersperse]), (by repeat (first | exact bel_one _ _ | refine bel_alloc ?_ _ | refine Below.drew ?_ | refine bel_trans ?_ (by assumption)))⟩)
  · go_enter Tryd.func35, Tryd.ntmps35
    go_wp2_with (first | (go_at_call 46; refine (l1name_any _ _ (by omega)).mono ?_; rintro e w1 ⟨rfl, hb1⟩; obtain ⟨hc1, _⟩ := bcell hb1; have hz1 : w.heap.size < w1.heap.size := (by have := hb1.size; simp at this; omega)) | (go_at_call 20; refine (l1decimal_any _ (by omega) (by omega) _).mono ?_; rintro e w2 ⟨rfl, hb2⟩; obtain ⟨hc2, _⟩ := bcell hb2; have hz2 := hb2.size))
    all_goals (go_ret; exact ⟨ret_str (by simp [str, lineL, wordsL, regL, Lib.join, List.intercalate, List.intersperse]), (by repeat (first | exact bel_one _ _ | refine bel_alloc ?_ _ | refine Below.drew ?_ | refine bel_trans ?_ (by assumption)))⟩)
  · omega
  · omega

end Go.Proofs.YtkoccaheckkbdaaDoor
