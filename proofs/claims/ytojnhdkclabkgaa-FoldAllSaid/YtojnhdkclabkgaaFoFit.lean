/- How large a graph is that Check lets pass. No condition. -/
import Derived.Test.YtojnhdkclabkgaaFoGood
namespace Go.Proofs.Ytojnhdkclabkgaa
namespace Fo
theorem nodup_len : ∀ (n : Nat) (l : List Int), l.Nodup → (∀ x ∈ l, 0 ≤ x ∧ x < n) → l.length ≤ n
  | 0, l, _, h => by
    cases l with
    | nil => simp
    | cons x r => have := h x (by simp); omega
  | n + 1, l, hd, h => by
    have ih := nodup_len n (l.erase n) (hd.erase _) (fun x hx => by
      have h1 := h x (List.mem_of_mem_erase hx)
      have h2 : x ≠ n := fun e => by subst e; exact (hd.not_mem_erase) hx
      omega)
    by_cases hm : (n : Int) ∈ l
    · rw [List.length_erase_of_mem hm] at ih; omega
    · rw [List.erase_of_not_mem hm] at ih; omega
theorem pt_len {n : Nat} {l : List Int} (h : Gr.ptOk n l = true) : l.length ≤ n := by
  have hat : ∀ k, k < l.length → Gr.ptAt n l k = true := fun k hk => all_at h hk
  refine nodup_len n l ?_ (fun x hx => ?_)
  · unfold List.Nodup
    rw [List.pairwise_iff_getElem]
    intro i j hi hj hij e
    have h1 := hat j hj
    unfold Gr.ptAt at h1
    rw [Bool.and_eq_true, List.all_eq_true] at h1
    have h2 := h1.2 i (by simpa using hij)
    simp only [List.getD, List.getElem?_eq_getElem hj, List.getElem?_eq_getElem hi, Option.getD_some] at h2
    simp [e] at h2
  · obtain ⟨k, hk, rfl⟩ := List.mem_iff_getElem.1 hx
    have h1 := hat k hk
    unfold Gr.ptAt at h1
    rw [Bool.and_eq_true] at h1
    have h2 := inn_of h1.1
    simpa [List.getD, List.getElem?_eq_getElem hk] using h2
theorem hd_ge {n : Nat} {l : List (Int × Int)} (h : Gr.hdsOk n l = true) : ∀ k, k < l.length → (k : Int) ≤ (l.getD k (0, 0)).1
  | 0, hk => by
    have h1 := all_at (show (List.range l.length).all (Gr.hdAt n l) = true from h) hk
    unfold Gr.hdAt at h1
    simp only [Bool.and_eq_true] at h1
    have := inn_of h1.1.2
    simp only [Int.natCast_zero] at *
    omega
  | k + 1, hk => by
    have ih := hd_ge h k (by omega)
    have h1 := all_at (show (List.range l.length).all (Gr.hdAt n l) = true from h) hk
    unfold Gr.hdAt Gr.hdLast at h1
    simp only [Bool.and_eq_true] at h1
    have h2 := h1.1.1
    rw [if_neg (by omega)] at h2
    simp only [Nat.add_sub_cancel, decide_eq_true_eq] at h2
    omega
theorem hds_len {n : Nat} {l : List (Int × Int)} (h : Gr.hdsOk n l = true) : l.length ≤ n := by
  rcases Nat.eq_zero_or_pos l.length with h0 | h0
  · omega
  · have h1 := hd_ge h (l.length - 1) (by omega)
    have h2 := all_at (show (List.range l.length).all (Gr.hdAt n l) = true from h) (show l.length - 1 < l.length by omega)
    unfold Gr.hdAt at h2
    simp only [Bool.and_eq_true] at h2
    have := inn_of h2.1.2
    omega
theorem opsN_ge (l : List Gr.Blk) : ∀ n k, k < n → (l.getD k Gr.blk0).ops.length ≤ Gr.opsN l n
  | 0, k, h => by omega
  | n + 1, k, h => by
    unfold Gr.opsN
    rcases Nat.lt_succ_iff_lt_or_eq.1 h with h | rfl
    · have := opsN_ge l n k h; omega
    · omega
/-- A graph within its bounds. -/
structure OkG (g : Gr.G) : Prop where
  ins : g.ins.length ≤ 64
  ars : g.ars.length ≤ 8
  pts : g.pts.length ≤ 39
  pt : ∀ k, k < g.pts.length → (g.pts.getD k []).length ≤ 64
  hds : g.hds.length ≤ 64
  blks : g.blks.length ≤ 64
  blk : ∀ k, k < g.blks.length → Bg (g.blks.getD k Gr.blk0)
theorem okg_of {g : Gr.G} (h : Gr.chk g = 0) : OkG g := by
  unfold Gr.chk at h
  split at h
  · exact absurd h (by decide)
  · rename_i hb
    split at h
    · rename_i hr
      have hb' : Gr.big g = false := by simpa using hb
      unfold Gr.big Gr.manyB at hb'
      simp only [Bool.or_eq_false_iff, decide_eq_false_iff_not] at hb'
      obtain ⟨⟨⟨⟨b1, b2⟩, b3⟩, b4⟩, b5⟩ := hb'
      unfold Gr.right at hr
      simp only [Bool.and_eq_true] at hr
      obtain ⟨⟨⟨hd, he, hk⟩, hp⟩, hh⟩ := hr
      unfold Gr.datOk at hd
      simp only [Bool.and_eq_true] at hd
      have d1 := inn_of hd.1.1.1.1
      have d2 : (g.ins.length : Int) ≤ g.keep := by simpa using hd.1.1.1.2
      have hpt : ∀ k, k < g.pts.length → (g.pts.getD k []).length ≤ 64 := fun k hkk => by
        have := pt_len (all_at (show (List.range g.pts.length).all (fun k => Gr.ptOk g.blks.length (g.pts.getD k [])) = true from hp) hkk)
        omega
      have hhd := hds_len hh
      refine ⟨by omega, by omega, by omega, hpt, by omega, by omega, fun k hkk => ?_⟩
      have hbk := all_at (show (List.range g.blks.length).all (fun k => Gr.blkOk g.vars g.ars.length g.blks.length (g.blks.getD k Gr.blk0)) = true from hk) hkk
      unfold Gr.blkOk at hbk
      rw [Bool.and_eq_true] at hbk
      have hlen := opsN_ge g.blks _ k hkk
      have hnx := hbk.2
      unfold Gr.nxOk at hnx
      rw [Bool.and_eq_true] at hnx
      have h2 := hnx.2
      have hc : (g.blks.getD k Gr.blk0).next.length ≤ 2 ∧ 0 ≤ (g.blks.getD k Gr.blk0).cond ∧ (g.blks.getD k Gr.blk0).cond ≤ 1000 := by
        split at h2
        · rename_i e2
          rw [Bool.and_eq_true] at h2
          have := inn_of h2.2
          omega
        · rw [Bool.and_eq_true] at h2
          have h3 := zer_of h2.2
          have h4 : (g.blks.getD k Gr.blk0).next.length < 2 := by simpa using h2.1
          omega
      refine ⟨by omega, ⟨g.vars, by omega, by omega, fun j hj => ?_⟩, hc.1, hc.2⟩
      have hj' := all_at (show (List.range (g.blks.getD k Gr.blk0).ops.length).all (Gr.opAt g.vars g.ars.length (g.blks.getD k Gr.blk0).ops) = true from hbk.1) hj
      unfold Gr.opAt at hj'
      simp only [Bool.and_eq_true] at hj'
      exact good_of (A := g.ars.length) (by omega) (by omega) hj'.1.1
    · exact absurd h (by decide)
end Fo
end Go.Proofs.Ytojnhdkclabkgaa
