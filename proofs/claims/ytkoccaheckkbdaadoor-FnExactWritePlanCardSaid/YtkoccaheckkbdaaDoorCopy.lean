/- The walks of toStep, toStepS, toBody, toBodyS, toPlan: new memory that holds the same plan. -/
import Derived.Test.YtkoccaheckkbdaaDoorPlain
import Derived.Deep.OwnRows
import Derived.Deep.Slices
namespace Go.Proofs.YtkoccaheckkbdaaDoor
open Go.RowKit Go.Deep

set_option maxHeartbeats 400000 in
theorem toStep_any (o a b n s : Int) (w : World) :
    Calls Tryd.prog 56 #[.agg #[.int .i64 o, .int .i64 a, .int .i64 b, .int .i64 n, .int .i64 s]] w fun e w' =>
      e = .returned (.agg #[.int .i64 o, .int .i64 a, .int .i64 b, .int .i64 n, .int .i64 s]) ∧ Below w.heap.size w w' := by
  go_enter Tryd.func56, Tryd.ntmps56
  go_wp2
  exact bodyPost_ret (v := .agg #[.int .i64 o, .int .i64 a, .int .i64 b, .int .i64 n, .int .i64 s]) (by simp [results, Tryd.results56, go_sem]) rfl
    ⟨rfl, bel_alloc (bel_alloc (bel_one _ _) _) _⟩

theorem info_step : (Tryd.prog.info? 42).map (fun i => (i.zero, i.size, i.bytes)) = some (some (.agg #[.int .i64 0, .int .i64 0, .int .i64 0, .int .i64 0, .int .i64 0]), 5, 40) := by kernel_rfl
theorem info_body : (Tryd.prog.info? 40).map (fun i => (i.zero, i.size, i.bytes)) = some (some (.agg #[.slice none 0 0]), 1, 24) := by kernel_rfl

/-- The steps S 0 .. S (k - 1) are laid in a row of cells. -/
def Filled (f : Nat → Value) (k : Nat) (S : Nat → Stp) : Prop :=
  ∀ j, j < k → f (j * 5) = .int .i64 (S j).op ∧ f (j * 5 + 1) = .int .i64 (S j).a ∧ f (j * 5 + 2) = .int .i64 (S j).b ∧ f (j * 5 + 3) = .int .i64 (S j).n ∧ f (j * 5 + 4) = .int .i64 (S j).size

theorem made_row (w : World) (n : Nat) (z : Array Value) {t : TypeId} : (w.alloc (.cells (madeCells z n) t)).rowIs w.heap.size t n (fun i => z[i % z.size]!) := by
  have := World.rowIs_alloc w (madeCells z n) t (fun i => z[i % z.size]!) (fun i hi => by rw [size_madeCells] at hi; simp [madeCells, hi])
  rwa [size_madeCells] at this

theorem copy_step {w : World} {g n k : Nat} {t : TypeId} {f : Nat → Value} {S : Nat → Stp} (hrow : w.rowIs g t (n * 5) f) (hfl : Filled f k S) (_hk : k < n) :
    ∃ f', (((((w.setCell ⟨g, k * 5, none⟩ (.int .i64 (S k).op)).setCell ⟨g, k * 5 + 1, none⟩ (.int .i64 (S k).a)).setCell ⟨g, k * 5 + 2, none⟩ (.int .i64 (S k).b)).setCell ⟨g, k * 5 + 3, none⟩ (.int .i64 (S k).n)).setCell
      ⟨g, k * 5 + 4, none⟩ (.int .i64 (S k).size)).rowIs g t (n * 5) f' ∧ Filled f' (k + 1) S := by
  refine ⟨_, ((((hrow.set _ _).set _ _).set _ _).set _ _).set _ _, fun j hj => ?_⟩
  by_cases e : j = k
  · subst e
    simp
  · obtain ⟨h0, h1, h2, h3, h4⟩ := hfl j (by omega)
    refine ⟨?_, ?_, ?_, ?_, ?_⟩ <;> (rw [if_neg (by omega), if_neg (by omega), if_neg (by omega), if_neg (by omega), if_neg (by omega)]; assumption)

theorem steps_of_row {w : World} {g n : Nat} {t : TypeId} {f : Nat → Value} {S : Nat → Stp} (hrow : w.rowIs g t (n * 5) f) (hfl : Filled f n S) : StepsAt w (some ⟨g, 0, none⟩) n S := by
  intro j hj
  obtain ⟨h0, h1, h2, h3, h4⟩ := hfl j hj
  refine ⟨g, 0, rfl, hrow.lt, ?_⟩
  simp only [Nat.zero_add]
  exact ⟨by rw [← h0]; exact hrow.cell (by omega), by rw [← h1]; exact hrow.cell (by omega), by rw [← h2]; exact hrow.cell (by omega), by rw [← h3]; exact hrow.cell (by omega), by rw [← h4]; exact hrow.cell (by omega)⟩

theorem StepsAt.setOther {w : World} {g o n : Nat} {S : Nat → Stp} (h : StepsAt w (some ⟨g, o, none⟩) n S) {a : Addr} (ha : g ≠ a.block) (v : Value) : StepsAt (w.setCell a v) (some ⟨g, o, none⟩) n S := by
  intro j hj
  obtain ⟨b, off, e, hlt, h0, h1, h2, h3, h4⟩ := h j hj
  have hne : b ≠ a.block := by simp at e; omega
  have hcell : ∀ x, (w.setCell a v).cell? ⟨b, x, none⟩ = w.cell? ⟨b, x, none⟩ := fun x => World.cell?_of_block (w := w) (blk_setCell_other w a v b hne)
  exact ⟨b, off, e, by rw [nblk_setCell]; exact hlt, (hcell _).trans h0, (hcell _).trans h1, (hcell _).trans h2, (hcell _).trans h3, (hcell _).trans h4⟩

set_option maxHeartbeats 400000 in
theorem toStepS_any (ao : Option Addr) (n cap : Nat) (S : Nat → Stp) (w : World) (hr : StepsAt w ao n S) (hn : n ≤ 1048576) :
    Calls Tryd.prog 44 #[.slice ao n cap] w fun e w' => ∃ g, e = .returned (.slice (some ⟨g, 0, none⟩) n n) ∧ w.heap.size ≤ g ∧ StepsAt w' (some ⟨g, 0, none⟩) n S ∧ Below w.heap.size w w' := by
  obtain ⟨i0, hi, hz0, hz1, hz2⟩ := info_parts info_step
  have hmk : ∀ wx : World, (Instr.makeSlice 38 (.int .i64 (n : Int)) (.int .i64 (n : Int))).run Tryd.prog wx = .ok (.slice (some ⟨wx.heap.size, 0, none⟩) n n) (wx.alloc (.cells (madeCells #[.int .i64 0, .int .i64 0, .int .i64 0, .int .i64 0, .int .i64 0] (n * 5)) 42)) := by
    intro wx
    have := run_make (P := Tryd.prog) wx 38 42 i0 _ Tryd.underlying38 hi hz0 .i64 .i64 n n (by omega) (by omega) (by rw [hz2]; omega) (by omega)
    rw [hz1] at this
    simpa [Value.cells] using this
  clear hi hz0 hz1 hz2
  go_enter Tryd.func44, Tryd.ntmps44
  go_wp2_with fail
  go_loopw [4] (fun i wr => ∃ k : Nat, ∃ f : Nat → Value, k ≤ n ∧ i = .int .i64 k ∧ wr.rowIs w.heap.size 42 (n * 5) f ∧ Filled f k S ∧ Below w.heap.size w wr) (fun i _ => n - (intOf i).toNat)
  case atStart =>
    refine ⟨0, _, Nat.zero_le _, rfl, made_row _ _ _, fun j hj => absurd hj (by omega), bel_one _ _⟩
  case round =>
    obtain ⟨k, f, hk, rfl, hrow, hfl, hb⟩ := hrel
    by_cases hlt : k < n
    · obtain ⟨b, off, rfl, hbl, c0, c1, c2, c3, c4⟩ := (hr.below hb) k hlt
      go_wp2_with (go_at_call 56; refine (toStep_any _ _ _ _ _ _).mono ?_; rintro e w' ⟨rfl, hb2⟩; have hrow2 := hrow.of_block (hb2.block _ hrow.lt); have hfz := hrow2.frozen; have d0 := hrow2.cell (i := k * 5) (by omega); have d1 := hrow2.cell (i := k * 5 + 1) (by omega); have d2 := hrow2.cell (i := k * 5 + 2) (by omega); have d3 := hrow2.cell (i := k * 5 + 3) (by omega); have d4 := hrow2.cell (i := k * 5 + 4) (by omega))
      obtain ⟨f', hr', hf'⟩ := copy_step hrow2 hfl hlt
      exact ⟨⟨k + 1, f', by omega, by go_num, hr', hf', ((((((bel_trans hb hb2).setCell (Nat.le_refl _) _).setCell (Nat.le_refl _) _).setCell (Nat.le_refl _) _).setCell (Nat.le_refl _) _).setCell (Nat.le_refl _) _)⟩, by simp [intOf]; omega⟩
    · go_wp2_with fail
      go_ret
      obtain rfl : k = n := by omega
      exact ⟨w.heap.size, rfl, Nat.le_refl _, steps_of_row hrow hfl, hb⟩

set_option maxHeartbeats 400000 in
theorem toBody_any (ao : Option Addr) (n cap : Nat) (S : Nat → Stp) (w : World) (hr : StepsAt w ao n S) (hn : n ≤ 1048576) :
    Calls Tryd.prog 30 #[.agg #[.slice ao n cap]] w fun e w' => ∃ g, e = .returned (.agg #[.slice (some ⟨g, 0, none⟩) n n]) ∧ w.heap.size ≤ g ∧ StepsAt w' (some ⟨g, 0, none⟩) n S ∧ Below w.heap.size w w' := by
  go_enter Tryd.func30, Tryd.ntmps30
  go_wp2_with (go_at_call 44; refine (toStepS_any _ _ _ S _ (hr.below (bel_alloc (bel_alloc (bel_one _ _) _) _)) hn).mono ?_; rintro e w1 ⟨g, rfl, hg, hst, hb⟩; obtain ⟨hc, hf⟩ := bcell hb; have hz : w.heap.size + 2 < w1.heap.size := (by have := hb.size; simp at this; omega))
  have hgz : w.heap.size + 3 ≤ g := by simpa using hg
  refine bodyPost_ret (v := .agg #[.slice (some ⟨g, 0, none⟩) n n]) (by simp [results, Tryd.results30, go_sem, hc]) rfl ⟨g, rfl, by omega, (hst.setOther (by simp; omega) _).setOther (by simp; omega) _, ?_⟩
  exact ((bel_trans (bel_alloc (bel_alloc (bel_one _ _) _) _) hb).setCell (by simp; omega) _).setCell (by simp) _

/-- Of the rows of a plan's copy the first k are laid. -/
def Laid (w : World) (g k : Nat) (f : Nat → Value) (L : Nat → Nat) (S : Nat → Nat → Stp) : Prop :=
  ∀ i, i < k → ∃ h, f i = .slice (some ⟨h, 0, none⟩) (L i) (L i) ∧ g < h ∧ StepsAt w (some ⟨h, 0, none⟩) (L i) (S i)

theorem Laid.next {w w' : World} {g m k h : Nat} {t : TypeId} {f : Nat → Value} {L : Nat → Nat} {S : Nat → Nat → Stp} (hrow : w.rowIs g t m f) (hl : Laid w g k f L S) (hb : Below w.heap.size w w')
    (hh : w.heap.size ≤ h) (hs : StepsAt w' (some ⟨h, 0, none⟩) (L k) (S k)) :
    ∃ f', (w'.setCell ⟨g, k, none⟩ (.slice (some ⟨h, 0, none⟩) (L k) (L k))).rowIs g t m f' ∧ Laid (w'.setCell ⟨g, k, none⟩ (.slice (some ⟨h, 0, none⟩) (L k) (L k))) g (k + 1) f' L S := by
  refine ⟨_, (hrow.of_block (hb.block _ hrow.lt)).set _ _, fun i hi => ?_⟩
  by_cases e : i = k
  · subst e
    exact ⟨h, by simp, Nat.lt_of_lt_of_le hrow.lt hh, hs.setOther (by have := hrow.lt; simp; omega) _⟩
  · obtain ⟨h1, e1, hlt, hst⟩ := hl i (by omega)
    exact ⟨h1, by rw [if_neg e]; exact e1, hlt, (hst.below hb).setOther (by simp; omega) _⟩

/-- The rows of a plan lie in blocks from B on. -/
def High (B m : Nat) (A : Nat → Option Addr) : Prop := ∀ i, i < m → ∃ h, A i = some ⟨h, 0, none⟩ ∧ B ≤ h

theorem plan_of_laid {w : World} {g m : Nat} {t : TypeId} {f : Nat → Value} {L : Nat → Nat} {S : Nat → Nat → Stp} (hrow : w.rowIs g t m f) (hl : Laid w g m f L S) :
    ∃ A, PlanAt w (some ⟨g, 0, none⟩) m A L L S ∧ High g m A := by
  obtain ⟨F, hF⟩ := choose_lt (α := Option Addr) (n := m) (p := fun i x => f i = .slice x (L i) (L i) ∧ StepsAt w x (L i) (S i) ∧ ∃ h, x = some ⟨h, 0, none⟩ ∧ g ≤ h) (fun i hi => by
    obtain ⟨h, e, hlt, hs⟩ := hl i hi
    exact ⟨some ⟨h, 0, none⟩, e, hs, h, rfl, Nat.le_of_lt hlt⟩)
  refine ⟨fun i => F i, ⟨fun i hi => ⟨g, 0, rfl, hrow.lt, ?_⟩, fun i hi => (hF i hi).2.1⟩, fun i hi => (hF i hi).2.2⟩
  rw [Nat.zero_add, hrow.cell hi, (hF i hi).1]

set_option maxHeartbeats 400000 in
theorem toBodyS_any (ao : Option Addr) (m cap : Nat) (A : Nat → Option Addr) (L C : Nat → Nat) (S : Nat → Nat → Stp) (w : World) (hr : PlanAt w ao m A L C S) (hm : m ≤ 1048576) (hL : ∀ i, i < m → L i ≤ 1048576) :
    Calls Tryd.prog 16 #[.slice ao m cap] w fun e w' => ∃ g c A', e = .returned (.slice (some ⟨g, 0, none⟩) m c) ∧ w.heap.size ≤ g ∧ PlanAt w' (some ⟨g, 0, none⟩) m A' L L S ∧ High g m A' ∧ Below w.heap.size w w' := by
  obtain ⟨i0, hi, hz0, hz1, hz2⟩ := info_parts info_body
  have hmk : ∀ wx : World, (Instr.makeSlice 29 (.int .i64 (m : Int)) (.int .i64 (m : Int))).run Tryd.prog wx = .ok (.slice (some ⟨wx.heap.size, 0, none⟩) m m) (wx.alloc (.cells (madeCells #[.slice none 0 0] m) 40)) := by
    intro wx
    have := run_make (P := Tryd.prog) wx 29 40 i0 _ Tryd.underlying29 hi hz0 .i64 .i64 m m (by omega) (by omega) (by rw [hz2]; omega) (by omega)
    rw [hz1] at this
    simpa [Value.cells] using this
  clear hi hz0 hz1 hz2
  go_enter Tryd.func16, Tryd.ntmps16
  go_wp2_with fail
  go_loopw [4] (fun i wr => ∃ k : Nat, ∃ f : Nat → Value, k ≤ m ∧ i = .int .i64 k ∧ wr.rowIs w.heap.size 40 m f ∧ Laid wr w.heap.size k f L S ∧ Below w.heap.size w wr) (fun i _ => m - (intOf i).toNat)
  case atStart =>
    refine ⟨0, _, Nat.zero_le _, rfl, made_row _ _ _, fun j hj => absurd hj (by omega), bel_one _ _⟩
  case round =>
    obtain ⟨k, f, hk, rfl, hrow, hfl, hb⟩ := hrel
    by_cases hlt : k < m
    · obtain ⟨b, off, rfl, hbl, c0⟩ := (hr.below hb).1 k hlt
      have hsk := (hr.below hb).2 k hlt
      have hLk := hL k hlt
      go_wp2_with (go_at_call 30; refine (toBody_any _ _ _ (S k) _ hsk hLk).mono ?_; rintro e w' ⟨g, rfl, hg, hst, hb2⟩; have hrow2 := hrow.of_block (hb2.block _ hrow.lt); have hfz := hrow2.frozen; have d0 := hrow2.cell (i := k) hlt)
      obtain ⟨f', hr', hf'⟩ := hfl.next hrow hb2 hg hst
      exact ⟨⟨k + 1, f', by omega, by go_num, hr', hf', (bel_trans hb hb2).setCell (Nat.le_refl _) _⟩, by simp [intOf]; omega⟩
    · go_wp2_with fail
      go_ret
      obtain rfl : k = m := by omega
      obtain ⟨A', hp, hh⟩ := plan_of_laid hrow hfl
      exact ⟨w.heap.size, k, A', rfl, Nat.le_refl _, hp, hh, hb⟩

theorem PlanAt.setLow {w : World} {g B m : Nat} {A : Nat → Option Addr} {L C : Nat → Nat} {S : Nat → Nat → Stp} (h : PlanAt w (some ⟨g, 0, none⟩) m A L C S) (hh : High g m A) (hg : B ≤ g) {a : Addr} (ha : a.block < B) (v : Value) :
    PlanAt (w.setCell a v) (some ⟨g, 0, none⟩) m A L C S := by
  refine ⟨fun i hi => ?_, fun i hi => ?_⟩
  · obtain ⟨b, off, e, hlt, h0⟩ := h.1 i hi
    have hne : b ≠ a.block := by simp at e; omega
    exact ⟨b, off, e, by rw [nblk_setCell]; exact hlt, (World.cell?_of_block (w := w) (blk_setCell_other w a v b hne)).trans h0⟩
  · obtain ⟨x, ex, hx⟩ := hh i hi
    have := h.2 i hi
    rw [ex] at this ⊢
    exact this.setOther (by omega) v

set_option maxHeartbeats 400000 in
theorem toPlan_any (ao : Option Addr) (m cap : Nat) (A : Nat → Option Addr) (L C : Nat → Nat) (S : Nat → Nat → Stp) (w : World) (hr : PlanAt w ao m A L C S) (hm : m ≤ 1048576) (hL : ∀ i, i < m → L i ≤ 1048576) :
    Calls Tryd.prog 7 #[.agg #[.slice ao m cap]] w fun e w' => ∃ g c A', e = .returned (.agg #[.slice (some ⟨g, 0, none⟩) m c]) ∧ w.heap.size ≤ g ∧ PlanAt w' (some ⟨g, 0, none⟩) m A' L L S ∧ High g m A' ∧ Below w.heap.size w w' := by
  go_enter Tryd.func7, Tryd.ntmps7
  go_wp2_with (go_at_call 16; refine (toBodyS_any _ _ _ A L C S _ (hr.below (bel_alloc (bel_alloc (bel_one _ _) _) _)) hm hL).mono ?_; rintro e w1 ⟨g, c, A', rfl, hg, hst, hh, hb⟩; obtain ⟨hc, hf⟩ := bcell hb; have hz : w.heap.size + 2 < w1.heap.size := (by have := hb.size; simp at this; omega))
  have hgz : w.heap.size + 3 ≤ g := by simpa using hg
  refine bodyPost_ret (v := .agg #[.slice (some ⟨g, 0, none⟩) m c]) (by simp [results, Tryd.results7, go_sem, hc]) rfl ⟨g, c, A', rfl, by omega, (hst.setLow hh hgz (by simp) _).setLow hh hgz (by simp) _, hh, ?_⟩
  exact ((bel_trans (bel_alloc (bel_alloc (bel_one _ _) _) _) hb).setCell (by simp; omega) _).setCell (by simp) _

end Go.Proofs.YtkoccaheckkbdaaDoor
