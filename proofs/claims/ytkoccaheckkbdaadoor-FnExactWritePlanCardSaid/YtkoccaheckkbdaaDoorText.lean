/- A plan as text: plain. -/
import Derived.Test.YtkoccaheckkbdaaDoorShape
import Derived.Test.YtkoccaheckkbdaaDoorDec
import Derived.Lib.Join
namespace Go.Proofs.YtkoccaheckkbdaaDoor
open Go.RowKit

/-- The word of an Op. -/
def nameL (op : Int) : List UInt8 :=
  if op = 1 then [115, 101, 116] else if op = 2 then [97, 100, 100] else if op = 3 then [115, 97, 121] else if op = 4 then [110, 101, 119] else if op = 5 then [114, 101, 115, 117, 109, 101]
  else if op = 6 then [121, 105, 101, 108, 100] else if op = 7 then [103, 105, 118, 101, 117, 112] else if op = 8 then [115, 116, 97, 116, 117, 115] else if op = 9 then [116, 104, 114, 111, 119]
  else if op = 10 then [114, 101, 116, 117, 114, 110] else if op = 11 then [116, 114, 121] else if op = 12 then [115, 99, 111, 112, 101] else if op = 13 then [100, 101, 102, 101, 114]
  else if op = 14 then [108, 111, 111, 112] else [105, 102]
/-- A register. -/
def regL (r : Int) : List UInt8 := 114 :: Lib.itoa r
/-- The words of a step. -/
def wordsL (s : Stp) : List (List UInt8) :=
  if s.op = 1 then [nameL 1, regL s.a, Lib.itoa s.n] else if s.op = 2 then [nameL 2, regL s.a, regL s.b, Lib.itoa s.n] else if s.op = 4 then [nameL 4, regL s.a, [98, 111, 100, 121], Lib.itoa s.b]
  else if s.op = 5 ∨ s.op = 7 ∨ s.op = 8 then [nameL s.op, regL s.a, regL s.b] else if s.op = 12 ∨ s.op = 13 then [nameL s.op] else [nameL s.op, regL s.a]
/-- A step as a line, without what is ahead of it and behind it. -/
def lineL (s : Stp) : List UInt8 := Lib.join (wordsL s) [32]
def tabsL (t : Nat) : List UInt8 := List.replicate t 9

/-- Steps as text. (The first number bounds the steps still to be written.) -/
def txtF (S : Nat → Stp) : Nat → Nat → Nat → Nat → List UInt8
  | 0, _, _, _ => []
  | f + 1, i, to, t =>
    if i < to then
      if headB (S i).op = true then (tabsL t ++ (lineL (S i) ++ [32, 123, 10])) ++ (txtF S f (i + 1) (min (i + 1 + (S i).size.toNat) to) (t + 1) ++ ((tabsL t ++ [125, 10]) ++ txtF S f (min (i + 1 + (S i).size.toNat) to) to t))
      else (tabsL t ++ (lineL (S i) ++ [10])) ++ txtF S f (i + 1) to t
    else []
def txt (S : Nat → Stp) (i to t : Nat) : List UInt8 := txtF S (to - i) i to t

theorem txtF_same {S : Nat → Stp} : ∀ (f g i to t : Nat), to - i ≤ f → to - i ≤ g → txtF S f i to t = txtF S g i to t
  | 0, 0, _, _, _, _, _ => rfl
  | 0, g + 1, i, to, t, h, _ => by rw [txtF, txtF, if_neg (by omega)]
  | f + 1, 0, i, to, t, _, h => by rw [txtF, txtF, if_neg (by omega)]
  | f + 1, g + 1, i, to, t, hf, hg => by
    rw [txtF, txtF]
    by_cases h : i < to
    · rw [if_pos h, if_pos h]
      by_cases hh : headB (S i).op = true
      · rw [if_pos hh, if_pos hh, txtF_same f g (i + 1) (min (i + 1 + (S i).size.toNat) to) (t + 1) (by omega) (by omega), txtF_same f g (min (i + 1 + (S i).size.toNat) to) to t (by omega) (by omega)]
      · rw [if_neg hh, if_neg hh, txtF_same f g (i + 1) to t (by omega) (by omega)]
    · rw [if_neg h, if_neg h]
theorem txt_of {S : Nat → Stp} {f i to t : Nat} (h : to - i ≤ f) : txtF S f i to t = txt S i to t := txtF_same _ _ _ _ _ h (Nat.le_refl _)
theorem txt_end {S : Nat → Stp} {i to t : Nat} (h : ¬ i < to) : txt S i to t = [] := by
  rw [← txt_of (f := (to - i) + 1) (by omega), txtF, if_neg h]
theorem txt_step {S : Nat → Stp} {i to t : Nat} (h : i < to) (hh : headB (S i).op = false) : txt S i to t = (tabsL t ++ (lineL (S i) ++ [10])) ++ txt S (i + 1) to t := by
  rw [← txt_of (f := (to - i - 1) + 1) (by omega), txtF, if_pos h, if_neg (by simp [hh]), txt_of (by omega)]
theorem txt_head {S : Nat → Stp} {i to t : Nat} (h : i < to) (hh : headB (S i).op = true) (hs : (S i).size ≤ (to : Int) - i - 1) :
    txt S i to t = (tabsL t ++ (lineL (S i) ++ [32, 123, 10])) ++ (txt S (i + 1) (i + 1 + (S i).size.toNat) (t + 1) ++ ((tabsL t ++ [125, 10]) ++ txt S (i + 1 + (S i).size.toNat) to t)) := by
  rw [← txt_of (f := (to - i - 1) + 1) (by omega), txtF, if_pos h, if_pos hh, show min (i + 1 + (S i).size.toNat) to = i + 1 + (S i).size.toNat by omega, txt_of (by omega), txt_of (by omega)]

/-- The numbers of a step are int's and int64's. -/
def Fit (s : Stp) : Prop := (-9223372036854775808 ≤ s.a ∧ s.a ≤ 9223372036854775807) ∧ (-9223372036854775808 ≤ s.b ∧ s.b ≤ 9223372036854775807) ∧ (-9223372036854775808 ≤ s.n ∧ s.n ≤ 9223372036854775807)

theorem ite_len {c : Prop} [Decidable c] {a b : List UInt8} (ha : a.length ≤ 6) (hb : b.length ≤ 6) : (if c then a else b).length ≤ 6 := by
  split
  · exact ha
  · exact hb
theorem name_len (op : Int) : (nameL op).length ≤ 6 := by
  unfold nameL
  repeat (refine ite_len (by decide) ?_)
  decide
theorem join_len (ws : List (List UInt8)) : (Lib.join ws [32]).length ≤ (ws.map (fun x => x.length + 1)).sum := by
  unfold Lib.join
  induction ws with
  | nil => simp
  | cons x r ih =>
    cases r with
    | nil => simp
    | cons y q =>
      rw [List.intercalate_cons_cons]
      simp only [List.length_append, List.length_cons, List.length_nil, List.map_cons, List.sum_cons] at ih ⊢
      omega
theorem line_len (s : Stp) (h : Fit s) : (lineL s).length ≤ 80 := by
  obtain ⟨⟨a0, a1⟩, ⟨b0, b1⟩, n0, n1⟩ := h
  have ha := itoa_len s.a a0 a1
  have hb := itoa_len s.b b0 b1
  have hn := itoa_len s.n n0 n1
  have hj := join_len (wordsL s)
  have hm := name_len s.op
  have m1 := name_len 1
  have m2 := name_len 2
  have m4 := name_len 4
  unfold lineL
  refine Nat.le_trans hj ?_
  unfold wordsL regL
  (repeat' split) <;> simp <;> omega

theorem txtF_len {S : Nat → Stp} {N : Nat} (hfit : ∀ k, k < N → Fit (S k)) : ∀ (f i to t : Nat), to ≤ N → t + (to - i) ≤ 400 → (txtF S f i to t).length ≤ (to - i) * 1000
  | 0, i, to, t, _, _ => by simp [txtF]
  | f + 1, i, to, t, hN, ht => by
    rw [txtF]
    by_cases h : i < to
    · have hl := line_len (S i) (hfit i (by omega))
      rw [if_pos h]
      by_cases hh : headB (S i).op = true
      · rw [if_pos hh]
        have h1 := txtF_len hfit f (i + 1) (min (i + 1 + (S i).size.toNat) to) (t + 1) (by omega) (by omega)
        have h2 := txtF_len hfit f (min (i + 1 + (S i).size.toNat) to) to t (by omega) (by omega)
        simp only [List.length_append, tabsL, List.length_replicate, List.length_cons, List.length_nil]
        omega
      · rw [if_neg hh]
        have h1 := txtF_len hfit f (i + 1) to t (by omega) (by omega)
        simp only [List.length_append, tabsL, List.length_replicate, List.length_cons, List.length_nil]
        omega
    · rw [if_neg h]; simp
theorem txt_len {S : Nat → Stp} {N : Nat} (hfit : ∀ k, k < N → Fit (S k)) (i to t : Nat) (hN : to ≤ N) (h : t + (to - i) ≤ 400) : (txt S i to t).length ≤ (to - i) * 1000 := txtF_len hfit _ _ _ _ hN h

end Go.Proofs.YtkoccaheckkbdaaDoor
