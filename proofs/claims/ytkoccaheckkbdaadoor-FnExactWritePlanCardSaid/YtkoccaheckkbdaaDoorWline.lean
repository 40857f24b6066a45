/- One line of a plan: the walks of reg and of the planWriter's line. -/
import Derived.Test.YtkoccaheckkbdaaDoorBld
import Derived.Test.YtkoccaheckkbdaaDoorShelf
namespace Go.Proofs.YtkoccaheckkbdaaDoor
open Go.RowKit

set_option maxRecDepth 100000 in
set_option maxHeartbeats 400000 in
theorem reg_any (r : Nat) (hr : r < 4) (w : World) : Calls Tryd.prog 53 #[.int .i64 r] w fun e w' => e = .returned (.string (str (regL r))) ∧ w' = w := by
  have hs := itoa_size (r : Int) (by omega) (by omega)
  have HI : Hid (str (Lib.itoa (r : Int)) = ⟨(Lib.decDigits r).toArray⟩) := by show _ = _; rw [Lib.itoa_nonneg]; rfl
  obtain ⟨I, hI⟩ : ∃ I, str (Lib.itoa (r : Int)) = I := ⟨_, rfl⟩
  rw [hI] at hs
  have HI2 := hid hI
  clear hI
  go_enter Tryd.func53, Tryd.ntmps53
  go_wp2_with (go_at_call 23; refine (Tryd.strconv_Itoa_small r (by omega) _).mono ?_; rintro e w' ⟨he, rfl⟩; rw [← HI.out, HI2.out] at he; subst he)
  go_ret
  refine ⟨?_, rfl⟩
  rw [← HI2.out]
  exact ret_str (by simp [str, regL])

theorem tabs_repeat (t : Nat) : Lib.repeatL [9] t = tabsL t := by
  have := Lib.repeatL_replicate 9 1 t
  rw [Nat.mul_one] at this
  exact this
theorem str_list (l : List UInt8) : (str l).data.toList = l := by simp [str]
theorem words_cells {w : World} {B e g c : Nat} {xs : List ByteArray} (h : w.ownsRow B e 1 (.slice (some ⟨g, 0, none⟩) xs.length c) xs.length (xs.map Value.string)) (j : Nat) (x : ByteArray) (hx : xs[j]? = some x) : w.cell? ⟨g, 0 + j, none⟩ = some (.string x) := by
  have hl : j < xs.length := (List.getElem?_eq_some_iff.1 hx).1
  rw [Nat.zero_add, h.cellAt j (by omega)]
  simp [hx]

theorem own_kept {w w' : World} {B b e n : Nat} {v : Value} {xs : List Value} {bs : List UInt8} (h : w.ownsRow B e 1 v n xs) (hw : Wrote B b bs w) (hk : Kept B b w w') (h5 : e ≠ 5) (h60 : e ≠ 60) : w'.ownsRow B e 1 v n xs := by
  obtain ⟨h1, h2⟩ := h
  refine ⟨h1, ?_⟩
  rcases h2 with h2 | ⟨g, cap, cur, hv, hg, hh, r⟩
  · exact Or.inl h2
  · refine Or.inr ⟨g, cap, cur, hv, hg, hk.2 g _ hh ?_ (fun c fz e => ?_), r⟩
    · intro e
      obtain rfl := Option.some.inj e
      rcases hw with ⟨_, v, hb, _⟩ | ⟨_, v, hb, _⟩
      · rw [hh] at hb; simp at hb; exact h60 hb.2
      · rw [hh] at hb; simp at hb; exact h60 hb.2
    · simp at e; exact h5 e.2.1

set_option maxRecDepth 100000 in
set_option maxHeartbeats 2000000 in
theorem line_any (B b : Nat) (bs : List UInt8) (t g c : Nat) (xs : List ByteArray) (w : World) (h : Wrote B b bs w) (hBw : B ≤ w.heap.size) (ht : t ≤ 400) (hbs : bs.length ≤ 100000000)
    (hx1 : xs.length ≤ 10) (hxc : xs.length ≤ c) (hown : w.ownsRow B 9 1 (.slice (some ⟨g, 0, none⟩) xs.length c) xs.length (xs.map Value.string)) (hj : (Lib.join (xs.map (·.data.toList)) [32]).length ≤ 1000) :
    Calls Tryd.prog 22 #[.pointer (some ⟨b, 0, none⟩), .int .i64 t, .slice (some ⟨g, 0, none⟩) xs.length c] w fun e w' =>
      e = .returned (.tuple #[]) ∧ Wrote B b (bs ++ (tabsL t ++ (Lib.join (xs.map (·.data.toList)) [32] ++ [10]))) w' ∧ Kept B b w w' := by
  obtain ⟨J, hJ⟩ : ∃ J, Lib.join (xs.map (·.data.toList)) [32] = J := ⟨_, rfl⟩
  have HJ := hid hJ
  rw [hJ] at hj ⊢
  clear hJ
  go_enter Tryd.func22, Tryd.ntmps22
  go_wp2_with fail
  go_region_with (first | (go_at_call 37; refine (Tryd.strings_Repeat _ t _ (by omega) (by show 1 * t ≤ _; omega)).mono ?_; rintro e w1 ⟨he, hb1⟩; have he2 : e = .returned (.string (str (tabsL t))) := (by rw [he]; exact congrArg (fun x => Ending.returned (Value.string (str x))) (tabs_repeat t)); subst he2; clear he) | (go_at_call 36; refine (writeString_any B b bs _ _ (by exact h.below (bel_trans (Below.drew (Below.refl _ _)) hb1)) (by rw [tabs_size]; omega) (by have := hb1.size; simp at this; omega)).mono ?_; rintro e w2 ⟨rfl, h2, hk2⟩))
  rw [str_list] at h2
  have hk02 : Kept B b w w2 := (kept_below (bel_trans (Below.drew (Below.refl _ _)) hb1) hBw).trans hk2
  have hown2 := own_kept hown h hk02 (by decide) (by decide)
  have hBw2 : B ≤ w2.heap.size := Nat.le_trans hBw hk02.1.size
  have hg2 : g < w2.heap.size := (hown2.lt g rfl).2
  clear hb1 hk2
  go_wp2_with fail
  go_region_with (first | (go_at_call 38; refine (Tryd.strings_Join g 0 c xs ⟨#[32]⟩ _ (by exact words_cells hown2) (by exact hg2) (by omega) hxc (by show (Lib.join (xs.map (·.data.toList)) [32]).length ≤ _; rw [HJ.out]; omega)).mono ?_; rintro e w3 ⟨he, hb3⟩; have he2 : e = .returned (.string (str J)) := (by rw [he]; exact congrArg (fun x => Ending.returned (Value.string (str x))) HJ.out); subst he2; clear he) | (go_at_call 36; refine (writeString_any B b (bs ++ tabsL t) _ _ (by exact h2.below (bel_trans (Below.drew (Below.refl _ _)) hb3)) (by rw [str_size, List.length_append, tabsL, List.length_replicate]; omega) (by have := hb3.size; simp at this; omega)).mono ?_; rintro e w4 ⟨rfl, h4, hk4⟩))
  rw [str_list] at h4
  have hk04 : Kept B b w w4 := hk02.trans ((kept_below (bel_trans (Below.drew (Below.refl _ _)) hb3) hBw2).trans hk4)
  have hBw4 : B ≤ w4.heap.size := Nat.le_trans hBw hk04.1.size
  go_wp2_with (go_at_call 39; refine (writeByte_any B b ((bs ++ tabsL t) ++ J) _ h4 (by rw [List.length_append, List.length_append, tabsL, List.length_replicate]; omega) hBw4).mono ?_; rintro e w5 ⟨rfl, h5, hk5⟩)
  go_end0
  refine ⟨rfl, ?_, hk04.trans hk5⟩
  simpa using h5

end Go.Proofs.YtkoccaheckkbdaaDoor
