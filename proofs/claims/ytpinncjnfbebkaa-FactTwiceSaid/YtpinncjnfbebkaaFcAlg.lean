/- Adding up the coefficients of sorted terms: what is left is what the specification leaves. No condition. -/
import Derived.Test.YtpinncjnfbebkaaFaAlg
namespace Go.Proofs.Ytpinncjnfbebkaa
set_option linter.unusedVariables false
set_option linter.unusedSimpArgs false
namespace Fa
variable {l l' f : Tms}
/-- Whether the next term goes to the last one. -/
def joins (acc : Tms) (t : Int × Int) : Bool := decide (0 < acc.length) && decide ((acc.getD (acc.length - 1) (0, 0)).1 = t.1)
def push (acc : Tms) (t : Int × Int) : Tms := if joins acc t = true then acc.set (acc.length - 1) ((acc.getD (acc.length - 1) (0, 0)).1, (acc.getD (acc.length - 1) (0, 0)).2 + t.2) else acc ++ [t]
def mrg (l : Tms) : Tms := l.foldl push []
theorem mrg_step {k : Nat} (hk : k < l.length) : mrg (l.take (k + 1)) = push (mrg (l.take k)) (l.getD k (0, 0)) := by
  unfold mrg
  rw [List.take_add_one, List.foldl_append]
  simp [List.getElem?_eq_getElem hk, List.getD]
theorem push_nil (t : Int × Int) : push [] t = [t] := by simp [push, joins]
theorem joins_snoc (a : Tms) (b t : Int × Int) : joins (a ++ [b]) t = decide (b.1 = t.1) := by
  unfold joins
  have e : (a ++ [b]).length - 1 = a.length := by simp
  rw [e]
  simp [List.getD]
theorem push_snoc (a : Tms) (b t : Int × Int) : push (a ++ [b]) t = if b.1 = t.1 then a ++ [(b.1, b.2 + t.2)] else a ++ [b] ++ [t] := by
  unfold push
  rw [joins_snoc]
  have e : (a ++ [b]).length - 1 = a.length := by simp
  rw [e]
  by_cases h : b.1 = t.1
  · simp [h, List.getD, List.set_append]
  · simp [h]
theorem snoc_of (l : Tms) : l = [] ∨ ∃ a b, l = a ++ [b] := List.eq_nil_or_concat l |>.imp id (fun ⟨a, b, h⟩ => ⟨a, b, by simpa using h⟩)
theorem cf_push (acc : Tms) (t : Int × Int) (o : Int) : cf (push acc t) o = cf acc o + if t.1 = o then t.2 else 0 := by
  rcases snoc_of acc with rfl | ⟨a, b, rfl⟩
  · rw [push_nil]; simp [cf]
  · rw [push_snoc]
    by_cases h : b.1 = t.1
    · rw [if_pos h, cf_app, cf_app]
      simp only [cf]
      rw [h]
      by_cases h2 : t.1 = o
      · simp [h2]; omega
      · simp [h2]
    · rw [if_neg h, cf_app, cf_app]
      simp only [cf]
      omega
theorem cf_mrg (o : Int) : ∀ k, k ≤ l.length → cf (mrg (l.take k)) o = cf (l.take k) o
  | 0, _ => by simp [mrg, cf]
  | k + 1, hk => by
    have hk' : k < l.length := by omega
    rw [mrg_step hk', cf_push, cf_mrg o k (by omega), List.take_add_one, cf_app]
    simp [List.getElem?_eq_getElem hk', List.getD, cf]
theorem push_len (acc : Tms) (t : Int × Int) : (push acc t).length ≤ acc.length + 1 := by
  unfold push
  split <;> simp
theorem mrg_len : ∀ k, k ≤ l.length → (mrg (l.take k)).length ≤ k
  | 0, _ => by simp [mrg]
  | k + 1, hk => by
    rw [mrg_step (by omega)]
    have := push_len (mrg (l.take k)) (l.getD k (0, 0))
    have := mrg_len k (by omega)
    omega
theorem push_pair {acc : Tms} {t : Int × Int} (hp : acc.Pairwise (fun a b => a.1 < b.1)) (ht : ∀ s ∈ acc, s.1 ≤ t.1) : (push acc t).Pairwise (fun a b => a.1 < b.1) ∧ ∀ s ∈ push acc t, s.1 ≤ t.1 := by
  rcases snoc_of acc with rfl | ⟨a, b, rfl⟩
  · rw [push_nil]; simp
  · rw [push_snoc]
    rw [List.pairwise_append] at hp
    obtain ⟨h1, _, h3⟩ := hp
    have hb := ht b (by simp)
    by_cases h : b.1 = t.1
    · rw [if_pos h]
      refine ⟨?_, fun s hs => ?_⟩
      · rw [List.pairwise_append]
        exact ⟨h1, by simp, fun x hx y hy => by obtain rfl : y = _ := by simpa using hy
                                                exact h3 x hx b (by simp)⟩
      · rcases List.mem_append.1 hs with hs | hs
        · exact ht s (by simp [hs])
        · obtain rfl : s = _ := by simpa using hs
          exact hb
    · rw [if_neg h]
      refine ⟨?_, fun s hs => ?_⟩
      · rw [List.pairwise_append, List.pairwise_append]
        refine ⟨⟨h1, by simp, h3⟩, by simp, fun x hx y hy => ?_⟩
        obtain rfl : y = t := by simpa using hy
        rcases List.mem_append.1 hx with hx | hx
        · have := h3 x hx b (by simp); omega
        · obtain rfl : x = b := by simpa using hx
          omega
      · rcases List.mem_append.1 hs with hs | hs
        · exact ht s hs
        · obtain rfl : s = t := by simpa using hs
          exact Int.le_refl _
theorem mrg_pair (hp : l.Pairwise (fun a b => a.1 ≤ b.1)) : ∀ k, k ≤ l.length → (mrg (l.take k)).Pairwise (fun a b => a.1 < b.1) ∧ ∀ s ∈ mrg (l.take k), ∀ j, k ≤ j → j < l.length → s.1 ≤ (l.getD j (0, 0)).1
  | 0, _ => by simp [mrg]
  | k + 1, hk => by
    have hk' : k < l.length := by omega
    obtain ⟨h1, h2⟩ := mrg_pair hp k (by omega)
    rw [mrg_step hk']
    have h3 := push_pair (t := l.getD k (0, 0)) h1 (fun s hs => h2 s hs k (Nat.le_refl _) hk')
    refine ⟨h3.1, fun s hs j hj hjl => ?_⟩
    have h4 := h3.2 s hs
    have h5 : (l.getD k (0, 0)).1 ≤ (l.getD j (0, 0)).1 := by
      have := (List.pairwise_iff_getElem.1 hp) k j hk' hjl (by omega)
      simpa [List.getD, List.getElem?_eq_getElem hk', List.getElem?_eq_getElem hjl] using this
    omega
/-- The terms whose coefficients are not 0. -/
def delz (l : Tms) : Tms := l.filter fun t => !decide (t.2 = 0)
theorem cf_delz (o : Int) : ∀ l : Tms, cf (delz l) o = cf l o
  | [] => rfl
  | t :: r => by
    unfold delz
    by_cases h : t.2 = 0
    · rw [List.filter_cons_of_neg (by simp [h])]
      have := cf_delz o r
      unfold delz at this
      rw [this]
      simp [cf, h]
    · rw [List.filter_cons_of_pos (by simp [h])]
      have := cf_delz o r
      unfold delz at this
      simp only [cf, this]
theorem same_sorted : ∀ (a b : Tms), a.Pairwise (fun x y => x.1 < y.1) → b.Pairwise (fun x y => x.1 < y.1) → (∀ t, t ∈ a ↔ t ∈ b) → a = b
  | [], [], _, _, _ => rfl
  | [], y :: b, _, _, h => absurd ((h y).2 (by simp)) (by simp)
  | x :: a, [], _, _, h => absurd ((h x).1 (by simp)) (by simp)
  | x :: a, y :: b, ha, hb, h => by
    rw [List.pairwise_cons] at ha hb
    have e : x = y := by
      rcases List.mem_cons.1 ((h x).1 (by simp)) with e | hx
      · exact e
      · rcases List.mem_cons.1 ((h y).2 (by simp)) with e | hy
        · exact e.symm
        · have := ha.1 y hy; have := hb.1 x hx; omega
    subst e
    rw [same_sorted a b ha.2 hb.2 fun t => ⟨fun ht => ?_, fun ht => ?_⟩]
    · rcases List.mem_cons.1 ((h t).1 (by simp [ht])) with rfl | h2
      · have := ha.1 _ ht; omega
      · exact h2
    · rcases List.mem_cons.1 ((h t).2 (by simp [ht])) with rfl | h2
      · have := hb.1 _ ht; omega
      · exact h2
theorem mem_norm (o : Nat) (h : sumAt l o ≠ 0) : ∀ {k : Nat}, o < k → ((o : Int), sumAt l o) ∈ normTo l k
  | 0, hk => by omega
  | k + 1, hk => by
    simp only [normTo, List.mem_append]
    by_cases e : o = k
    · subst e
      right
      rw [if_neg h]
      simp
    · exact .inl (mem_norm o h (by omega))
theorem norm_id (hp : l.Pairwise (fun a b => a.1 < b.1)) (ht : ∀ t ∈ l, (0 ≤ t.1 ∧ t.1 < 256) ∧ t.2 ≠ 0) : normTo l 256 = l := by
  refine same_sorted _ _ (norm_pair 256) hp fun t => ⟨fun h => ?_, fun h => ?_⟩
  · obtain ⟨h1, h2, h3, h4⟩ := norm_mem h
    have hex : ∃ s ∈ l, s.1 = t.1 := by
      apply Classical.byContradiction
      intro hn
      exact h4 (h3.trans (cf_out _ l fun s hs e => hn ⟨s, hs, e⟩))
    obtain ⟨s, hs, e⟩ := hex
    have := cf_pair hp hs
    have e2 : t = s := by
      have h5 : t.2 = s.2 := by rw [h3, ← e]; exact this
      exact Prod.ext e.symm h5
    rw [e2]; exact hs
  · obtain ⟨⟨h1, h2⟩, h3⟩ := ht t h
    have hc := cf_pair hp h
    have e : ((t.1.toNat : Nat) : Int) = t.1 := by omega
    have hs : sumAt l t.1.toNat = t.2 := by rw [sumAt_cf, e, hc]
    have := mem_norm (l := l) t.1.toNat (by rw [hs]; exact h3) (k := 256) (by omega)
    rw [hs, e] at this
    exact this
theorem cf_perm (o : Int) : ∀ {l l' : Tms}, l.Perm l' → cf l o = cf l' o := by
  intro l l' h
  induction h with
  | nil => rfl
  | cons x _ ih => simp only [cf, ih]
  | swap x y l => simp only [cf]; omega
  | trans _ _ h1 h2 => exact h1.trans h2
theorem mrg_mem {s : Int × Int} : ∀ {k : Nat}, k ≤ l.length → s ∈ mrg (l.take k) → ∃ t ∈ l, t.1 = s.1
  | 0, _, h => by simp [mrg] at h
  | k + 1, hk, h => by
    have hk' : k < l.length := by omega
    rw [mrg_step hk'] at h
    have hm : l.getD k (0, 0) ∈ l := by rw [List.getD_eq_getElem?_getD, List.getElem?_eq_getElem hk']; exact List.getElem_mem hk'
    have ih : ∀ x ∈ mrg (l.take k), ∃ t ∈ l, t.1 = x.1 := fun x hx => mrg_mem (by omega) hx
    generalize mrg (l.take k) = acc at h ih
    rcases snoc_of acc with rfl | ⟨a, b, rfl⟩
    · rw [push_nil] at h
      obtain rfl : s = _ := by simpa using h
      exact ⟨_, hm, rfl⟩
    · rw [push_snoc] at h
      split at h
      · rcases List.mem_append.1 h with h | h
        · exact ih s (by simp [h])
        · obtain rfl : s = _ := by simpa using h
          exact ih b (by simp)
      · rcases List.mem_append.1 h with h | h
        · exact ih s h
        · obtain rfl : s = _ := by simpa using h
          exact ⟨_, hm, rfl⟩
/-- The coefficients of what is added up stay small. -/
theorem mrg_bds (hp : l.Pairwise (fun a b => a.1 ≤ b.1)) (hb : ∀ t ∈ l, -1048576 ≤ t.2 ∧ t.2 ≤ 1048576) (hl : l.length ≤ 1024) {s : Int × Int} {k : Nat} (hk : k ≤ l.length) (hs : s ∈ mrg (l.take k)) : -1073741824 ≤ s.2 ∧ s.2 ≤ 1073741824 := by
  have h1 := cf_pair (mrg_pair hp k hk).1 hs
  rw [cf_mrg _ k hk] at h1
  have h2 := cf_bds (B := 1048576) (by omega) s.1 (l.take k) (fun t ht => hb t (List.mem_of_mem_take ht))
  have h3 : (l.take k).length ≤ 1024 := by rw [List.length_take]; omega
  omega
/-- What the code leaves of sorted terms. -/
theorem left_is (hp : l'.Pairwise (fun a b => a.1 ≤ b.1)) (hq : l'.Perm l) (ht : ∀ t ∈ l, 0 ≤ t.1 ∧ t.1 < 256) : delz (mrg l') = normTo l 256 := by
  have e0 : mrg l' = mrg (l'.take l'.length) := by rw [List.take_length]
  have hpm := (mrg_pair hp l'.length (Nat.le_refl _)).1
  rw [← e0] at hpm
  have h1 : ∀ o, cf (delz (mrg l')) o = cf l o := fun o => by
    rw [cf_delz, e0, cf_mrg o _ (Nat.le_refl _), List.take_length, cf_perm o hq]
  rw [← norm_congr 256 (l := delz (mrg l')) (fun o _ => h1 o)]
  symm
  refine norm_id (List.Pairwise.filter _ hpm) fun t hm => ?_
  unfold delz at hm
  rw [List.mem_filter] at hm
  obtain ⟨s, hs, e⟩ := mrg_mem (l := l') (k := l'.length) (Nat.le_refl _) (by rw [← e0]; exact hm.1)
  have := ht s (hq.mem_iff.1 hs)
  exact ⟨by omega, by simpa using hm.2⟩
theorem right_iff : ∀ k, rightTo l k = true ↔ ∀ o, o < k → sumAt l o = 0 ∨ inC (sumAt l o) = true
  | 0 => by simp [rightTo]
  | k + 1 => by
    simp only [rightTo, Bool.and_eq_true, Bool.or_eq_true, decide_eq_true_eq]
    rw [right_iff k]
    constructor
    · rintro ⟨h1, h2⟩ o ho
      by_cases e : o = k
      · subst e; exact h2
      · exact h1 o (by omega)
    · intro h
      exact ⟨fun o ho => h o (by omega), h k (by omega)⟩
/-- What is left has a wrong term just where a sum is too great. -/
theorem right_is : rightTo l 256 = !((List.range (normTo l 256).length).any fun k => tbad ((normTo l 256).getD k (0, 0))) := by
  rw [Bool.eq_iff_iff, right_iff, Bool.not_eq_true', List.any_eq_false]
  constructor
  · intro h k hk
    have hk' : k < (normTo l 256).length := by simpa using hk
    have hm := List.getElem_mem hk'
    obtain ⟨h1, h2, h3, h4⟩ := norm_mem hm
    have e : ((normTo l 256)[k].1.toNat : Int) = (normTo l 256)[k].1 := by omega
    have h5 := h (normTo l 256)[k].1.toNat (by omega)
    rw [sumAt_cf, e, ← h3] at h5
    have h6 : inC (normTo l 256)[k].2 = true := by rcases h5 with h5 | h5; exact absurd h5 h4; exact h5
    simp only [List.getD, List.getElem?_eq_getElem hk', Option.getD_some]
    unfold tbad
    simp [h6]
    omega
  · intro h o ho
    by_cases hz : sumAt l o = 0
    · exact .inl hz
    · right
      obtain ⟨k, hk, e⟩ := List.getElem_of_mem (mem_norm (l := l) o hz ho)
      have := h k (by simpa using hk)
      simp only [List.getD, List.getElem?_eq_getElem hk, Option.getD_some, e] at this
      unfold tbad at this
      simp at this
      exact this.2
theorem getD_mem {l : Tms} {j : Nat} (hj : j < l.length) : l.getD j (0, 0) ∈ l := by
  rw [List.getD_eq_getElem?_getD, List.getElem?_eq_getElem hj]
  exact List.getElem_mem hj
end Fa
end Go.Proofs.Ytpinncjnfbebkaa
