/- The walk of the planWriter's block and node, at every node. -/
import Derived.Test.YtkoccaheckkbdaaDoorNodeB
import Derived.Test.YtkoccaheckkbdaaDoorPlanText
namespace Go.Proofs.YtkoccaheckkbdaaDoor
open Go.RowKit

/-- A node as text. -/
def nodeT (s : Stp) (t : Nat) (sub : List UInt8) : List UInt8 :=
  if headB s.op = true then (tabsL t ++ (lineL s ++ [32, 123, 10])) ++ (sub ++ (tabsL t ++ [125, 10])) else tabsL t ++ (lineL s ++ [10])

theorem shp_regs {m : Nat} {s : Stp} (h : shp m s = true) : (s.op ≠ 12 → s.op ≠ 13 → 0 ≤ s.a ∧ s.a < 4) ∧ (s.op = 2 ∨ s.op = 5 ∨ s.op = 7 ∨ s.op = 8 → 0 ≤ s.b ∧ s.b < 4) ∧ (s.op = 4 → 0 ≤ s.b ∧ s.b < m) := by
  obtain ⟨o, a, b, n, z⟩ := s
  simp only []
  rcases op_cases o with rfl | rfl | rfl | rfl | rfl | rfl | rfl | rfl | rfl | rfl | rfl | rfl | rfl | rfl | rfl | hx | hx
  iterate 15 · (simp [shp, regB] at h; omega)
  · rw [shp_other _ _ _ _ _ _ (.inl hx)] at h; cases h
  · rw [shp_other _ _ _ _ _ _ (.inr hx)] at h; cases h

theorem node_any (B b m : Nat) (bs sub : List UInt8) (t : Nat) (s : Stp) (ao : Option Addr) (vl vc : Nat) (w : World) (hsh : shp m s = true) (hm : m ≤ 30) (hf : Fit s) (h : Wrote B b bs w) (hBw : B ≤ w.heap.size) (ht : t ≤ 399)
    (hbs : (bs ++ nodeT s t sub).length ≤ 40000000) (htab : Tabs B w) (hblk : headB s.op = true → Writes B b w t (.slice ao vl vc) sub) :
    Calls Tryd.prog 41 #[.pointer (some ⟨b, 0, none⟩), .int .i64 t, nodeV s (.slice ao vl vc)] w fun e w' => e = .returned (.tuple #[]) ∧ Wrote B b (bs ++ nodeT s t sub) w' ∧ KeptN B w w' := by
  obtain ⟨ra, rb, rc⟩ := shp_regs hsh
  have hg := shp_good hsh
  have hbs' : bs.length ≤ 40000000 := by rw [List.length_append] at hbs; omega
  have hbs2 : headB s.op = true → bs.length + (t + ((lineL s).length + 3) + sub.length) ≤ 40000000 := by
    intro hh
    unfold nodeT at hbs
    rw [if_pos hh] at hbs
    simp only [List.length_append, tabsL, List.length_replicate, List.length_cons, List.length_nil] at hbs
    omega
  unfold nodeT
  have hcase := op_cases s.op
  rcases hcase with ho | ho | ho | ho | ho | ho | ho | ho | ho | ho | ho | ho | ho | ho | ho | ho | ho
  · rw [if_neg (by rw [ho]; decide)]; exact node_1 B b bs t s ao vl vc w ho (ra (by omega) (by omega)) hf h hBw ht hbs' htab
  · rw [if_neg (by rw [ho]; decide)]; exact node_2 B b bs t s ao vl vc w ho (ra (by omega) (by omega)) (rb (by omega)) hf h hBw ht hbs' htab
  · rw [if_neg (by rw [ho]; decide)]; exact node_3 B b bs t s ao vl vc w ho (ra (by omega) (by omega)) hf h hBw ht hbs' htab
  · rw [if_neg (by rw [ho]; decide)]; exact node_4 B b bs t s ao vl vc w ho (ra (by omega) (by omega)) ⟨(rc ho).1, by have := (rc ho).2; omega⟩ hf h hBw ht hbs' htab
  · rw [if_neg (by rw [ho]; decide)]; exact node_5 B b bs t s ao vl vc w ho (ra (by omega) (by omega)) (rb (by omega)) hf h hBw ht hbs' htab
  · rw [if_neg (by rw [ho]; decide)]; exact node_6 B b bs t s ao vl vc w ho (ra (by omega) (by omega)) hf h hBw ht hbs' htab
  · rw [if_neg (by rw [ho]; decide)]; exact node_7 B b bs t s ao vl vc w ho (ra (by omega) (by omega)) (rb (by omega)) hf h hBw ht hbs' htab
  · rw [if_neg (by rw [ho]; decide)]; exact node_8 B b bs t s ao vl vc w ho (ra (by omega) (by omega)) (rb (by omega)) hf h hBw ht hbs' htab
  · rw [if_neg (by rw [ho]; decide)]; exact node_9 B b bs t s ao vl vc w ho (ra (by omega) (by omega)) hf h hBw ht hbs' htab
  · rw [if_neg (by rw [ho]; decide)]; exact node_10 B b bs t s ao vl vc w ho (ra (by omega) (by omega)) hf h hBw ht hbs' htab
  · rw [if_pos (by rw [ho]; decide)]; exact node_11 B b bs sub t s ao vl vc w ho (ra (by omega) (by omega)) hf h hBw ht (hbs2 (by rw [ho]; decide)) htab (hblk (by rw [ho]; decide))
  · rw [if_pos (by rw [ho]; decide)]; exact node_12 B b bs sub t s ao vl vc w ho hf h hBw ht (hbs2 (by rw [ho]; decide)) htab (hblk (by rw [ho]; decide))
  · rw [if_pos (by rw [ho]; decide)]; exact node_13 B b bs sub t s ao vl vc w ho hf h hBw ht (hbs2 (by rw [ho]; decide)) htab (hblk (by rw [ho]; decide))
  · rw [if_pos (by rw [ho]; decide)]; exact node_14 B b bs sub t s ao vl vc w ho (ra (by omega) (by omega)) hf h hBw ht (hbs2 (by rw [ho]; decide)) htab (hblk (by rw [ho]; decide))
  · rw [if_pos (by rw [ho]; decide)]; exact node_15 B b bs sub t s ao vl vc w ho (ra (by omega) (by omega)) hf h hBw ht (hbs2 (by rw [ho]; decide)) htab (hblk (by rw [ho]; decide))
  · have := hg.1; omega
  · have := hg.2.1; omega

/-- The nodes go along with what the writing keeps. -/
theorem NodesP.kept {S : Nat → Stp} {ok : Nat → Prop} {f B : Nat} {w w' : World} {v : Value} {i te : Nat} (h : NodesP S f ok w v i te) (hk : KeptN B w w') : NodesP S f ok w' v i te :=
  h.carry (fun g cur hg ho => ⟨hk.2 g cur _ _ hg (by decide) (by decide) (by decide), ho⟩)

theorem node_text {S : Nat → Stp} {m p te t deep : Nat} {dfr : Bool} (hp : p < te) (hsh : shp m (S p) = true) (hn : (ins S p te deep dfr).1 = 0) :
    p + 1 + (S p).size.toNat ≤ te ∧ txt S p te t = nodeT (S p) t (if headB (S p).op = true then txt S (p + 1) (p + 1 + (S p).size.toNat) (t + 1) else []) ++ txt S (p + 1 + (S p).size.toNat) te t ∧ (ins S (p + 1 + (S p).size.toNat) te deep dfr).1 = 0 := by
  have hg := shp_good hsh
  cases hh : headB (S p).op
  · have h0 := hg.2.2.2 hh
    unfold nodeT
    rw [if_neg (by simp [hh]), h0]
    refine ⟨by simp; omega, ?_, ?_⟩
    · rw [txt_step hp hh]; rfl
    · exact nest_step hp hh hn
  · obtain ⟨h1, _, h3, h4⟩ := nest_head hp hh hn
    have h0 := hg.2.2.1
    unfold nodeT
    rw [if_pos hh, if_pos rfl]
    refine ⟨by omega, ?_, h4⟩
    rw [txt_head hp hh h1]
    simp

end Go.Proofs.YtkoccaheckkbdaaDoor
