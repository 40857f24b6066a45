/- The walk of the planWriter's block, of any nodes. -/
import Derived.Test.YtkoccaheckkbdaaDoorBlock
namespace Go.Proofs.YtkoccaheckkbdaaDoor
open Go.RowKit

theorem own_parts {w : World} {e n : Nat} {ao : Option Addr} {vl vc : Nat} {xs : List Value} (h : w.ownsRow 0 e 1 (.slice ao vl vc) n xs) : vl = n ∧ (0 < n → ∃ g, ao = some ⟨g, 0, none⟩ ∧ n ≤ vc ∧ vc ≤ maxLen ∧ (∃ cur, w.heap[g]? = some (Obj.cells cur e (0, 0))) ∧ ∀ j, j < n → w.cell? ⟨g, j, none⟩ = xs[j]?) := by
  have h' := h
  rcases h.2 with ⟨hv, h0⟩ | ⟨g, cap, cur, hv, _, hh, hc, hm, _, _⟩
  · simp at hv
    exact ⟨by omega, fun h => by omega⟩
  · simp at hv
    obtain ⟨rfl, rfl, rfl⟩ := hv
    exact ⟨rfl, fun _ => ⟨g, rfl, hc, hm, ⟨cur, hh⟩, fun j hj => h'.cellAt j (by omega)⟩⟩

set_option maxRecDepth 100000 in
set_option maxHeartbeats 2000000 in
theorem block_any (S : Nat → Stp) (ok : Nat → Prop) (B b m : Nat) (hm : m ≤ 30) : ∀ (f : Nat) (ao : Option Addr) (vl vc i te t deep : Nat) (dfr : Bool) (bs : List UInt8) (w : World), NodesP S f ok w (.slice ao vl vc) i te → te ≤ 300 → t + (te - i) ≤ 350 →
    (ins S i te deep dfr).1 = 0 → (∀ k, k < te → shp m (S k) = true) → (∀ k, k < te → Fit (S k)) → Wrote B b bs w → B ≤ w.heap.size → Tabs B w → bs.length + (txt S i te t).length ≤ 40000000 →
    Calls Tryd.prog 24 #[.pointer (some ⟨b, 0, none⟩), .int .i64 t, .slice ao vl vc] w fun e w' => e = .returned (.tuple #[]) ∧ Wrote B b (bs ++ txt S i te t) w' ∧ KeptN B w w' := by
  intro f
  induction f with
  | zero => intro ao vl vc i te t deep dfr bs w h; exact h.elim
  | succ f ih0 =>
    intro ao vl vc i te t deep dfr bs w hN hte ht hins hsh hfit hw hBw htab hlen
    have ih := hid ih0
    obtain ⟨ks, xs, htop, hown, hok, hall⟩ := hN
    obtain ⟨rfl, hrow⟩ := own_parts hown
    have hkl : ks.length ≤ 9223372036854775807 := by
      by_cases h0 : 0 < ks.length
      · obtain ⟨g, _, h1, h2, _⟩ := hrow h0
        unfold maxLen at h2; omega
      · omega
    have HS := hid hsh
    have HF := hid hfit
    have HA := hid hall
    have HR := hid hrow
    have HW := hid hown
    have HT := hid htop
    have HI := hid hins
    obtain ⟨X, hX⟩ : ∃ X, bs ++ txt S i te t = X := ⟨_, rfl⟩
    have hXl : X.length ≤ 40000000 := by rw [← hX, List.length_append]; exact hlen
    rw [hX]
    have HX := hid hX
    clear ih0 hsh hfit hall hrow hown htop hins hX hlen hok
    go_enter Tryd.func24, Tryd.ntmps24
    go_wp2_with fail
    go_loopg [10] ks.length (fun r c wr => ∃ (j p : Nat) (ys : List UInt8), j ≤ ks.length ∧ Hid (r + j = ks.length) ∧ c = .int .i64 j ∧ Wrote B b ys wr ∧ Hid (ys ++ txt S p te t = X) ∧ Hid (Tops S te p (ks.drop j)) ∧ Hid ((ins S p te deep dfr).1 = 0) ∧ i ≤ p ∧ Hid (KeptN B w wr))
    case atStart => exact ⟨0, i, bs, by omega, by show _ = _; omega, rfl, hw, HX, HT, HI, Nat.le_refl _, KeptN.refl _ _⟩
    case round =>
      obtain ⟨j, p, ys, hj, HJ, rfl, hwr, HY, HTP, HIP, hip, HK⟩ := hrel
      by_cases hlt : j < ks.length
      · obtain ⟨g, rfl, hvc, hvm, ⟨cur, hgc⟩, hcell⟩ := HR.out (by omega)
        obtain ⟨k, r', hkr⟩ : ∃ k r', ks.drop j = k :: r' := by
          cases hd : ks.drop j with
          | nil => have := List.drop_eq_nil_iff.1 hd; omega
          | cons k r' => exact ⟨k, r', rfl⟩
        have hkj : ks[j]? = some k := by rw [← List.head?_drop, hkr]; rfl
        have hdr : ks.drop (j + 1) = r' := by rw [← List.tail_drop, hkr]; rfl
        have htp0 := HTP.out
        rw [hkr] at htp0
        obtain ⟨hkp, hp, htp⟩ := htp0
        obtain ⟨ao', l', c', hx, hch⟩ := HA.out j k hkj
        rw [hkp] at hx hch
        have hgl : g < wr.heap.size := Nat.lt_of_lt_of_le (Array.getElem?_eq_some_iff.1 hgc).1 HK.out.1.size
        have hc : wr.cell? ⟨g, j, none⟩ = some (nodeV (S p) (.slice ao' l' c')) := by
          rw [HK.out.cell hgc (by decide) (by decide) (by decide) j, hcell j hlt]
          exact hx
        obtain ⟨T, x, hTx⟩ := nodeV_iface (S p) (.slice ao' l' c')
        rw [hTx] at hc
        have HTX := hid hTx
        have hshp := HS.out p hp
        have hnt := node_text (t := t) hp hshp HIP.out
        obtain ⟨sub, hsub⟩ : ∃ sub, (if headB (S p).op = true then txt S (p + 1) (p + 1 + (S p).size.toNat) (t + 1) else []) = sub := ⟨_, rfl⟩
        rw [hsub] at hnt
        obtain ⟨hle, htx, hin'⟩ := hnt
        have HB : Hid (headB (S p).op = true → Writes B b wr t (.slice ao' l' c') sub) := by
          intro hh
          have hnp := (hch hh).kept HK.out
          intro bs' w' hw' hk' hl'
          have e1 := nest_head hp hh HIP.out
          rw [if_pos hh] at hsub
          rw [← hsub] at hl' ⊢
          rw [show ((t : Int) + 1) = ((t + 1 : Nat) : Int) by omega]
          exact ih.out ao' l' c' (p + 1) (p + 1 + (S p).size.toNat) (t + 1) _ _ bs' w' (hnp.kept hk') (by omega) (by omega) e1.2.2.1 (fun k hk => HS.out k (by omega)) (fun k hk => HF.out k (by omega)) hw' (Nat.le_trans (Nat.le_trans hBw HK.out.1.size) hk'.1.size) ((htab.below HK.out.1).below hk'.1) hl'
        have hyl : (ys ++ nodeT (S p) t sub).length ≤ 40000000 := by
          have := HY.out
          rw [htx] at this
          rw [← this] at hXl
          simp only [List.length_append] at hXl ⊢
          omega
        have HC := hid (node_any B b m ys sub t (S p) ao' l' c' wr hshp hm (HF.out p hp) hwr (Nat.le_trans hBw HK.out.1.size) (by omega) hyl (htab.below HK.out.1) HB.out)
        rw [hTx] at HC
        have HY2 : Hid ((ys ++ nodeT (S p) t sub) ++ txt S (p + 1 + (S p).size.toNat) te t = X) := by
          show _ = _
          rw [← HY.out, htx, List.append_assoc]
        have HT2 := hid htp
        have HI2 := hid hin'
        clear hTx hsub htx hin' htp hch hx HB HY hkj hkr hkp
        go_wp2_with (go_at_call 41; refine HC.out.mono ?_; rintro e w2 ⟨rfl, h2, hk2⟩)
        go_roundg (ks.length - (j + 1))
        case measure => have := HJ.out; omega
        case rel =>
          refine ⟨j + 1, p + 1 + (S p).size.toNat, ys ++ nodeT (S p) t sub, by omega, by show _ = _; omega, by go_num, h2, HY2, ?_, HI2, by omega, HK.out.trans hk2⟩
          show Tops _ _ _ _
          rw [hdr]; exact HT2.out
      · go_wp2_with fail
        go_end0
        refine ⟨rfl, ?_, HK.out⟩
        have h1 := HTP.out
        rw [List.drop_eq_nil_of_le (by omega)] at h1
        have h2 := HY.out
        rw [txt_end h1, List.append_nil] at h2
        rw [← h2]; exact hwr

end Go.Proofs.YtkoccaheckkbdaaDoor
