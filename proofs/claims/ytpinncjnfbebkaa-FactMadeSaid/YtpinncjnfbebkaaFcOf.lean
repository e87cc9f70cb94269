/- The code of layer 11: Of. No condition. -/
import Derived.Test.YtpinncjnfbebkaaFcSums
namespace Go.Proofs.Ytpinncjnfbebkaa
open Go.RowKit
set_option linter.unusedVariables false
set_option linter.unusedSimpArgs false
attribute [local go_sem] y_undef
theorem ent_of1 (args : Array Value) (w : World) : (callFunc 42 args).run Try.prog w = .ok (.enter 42 args) w := enters_of Try.func42 (by kernel_rfl) rfl args w
theorem hasbadT_any (l : Fa.Tms) (v : Value) (w : World) (r : Bool) (hv : PrsIn w v l) (hm : l.length ≤ maxLen) (hr : (List.range l.length).any (fun k => Fa.tbad (l.getD k (0, 0))) = r) :
    Calls Try.prog 43 #[v, .func (.func 42) #[] #[]] w fun e w' => e = .returned (.bool r) ∧ Below w.heap.size w w' :=
  hasTm_any 42 #[] ent_of1 l v w (fun k => Fa.tbad (l.getD k (0, 0))) hv hm (fun W k hb hk => of1_any _ _ _ rfl W) r hr
set_option maxRecDepth 100000 in
set_option maxHeartbeats 8000000 in
theorem fof_any (l : Fa.Tms) (most : Int) (v : Value) (r : Fa.Tms × Int × Int) (w : World) (hv : PrsIn w v l) (hm : l.length ≤ maxLen) (hr : Fa.ofR l most = r) :
    Calls Try.prog 24 #[v, .int .i64 most] w (OfPost r w) := by
  have HB := Lib.hid (rb_new w)
  have HH := Lib.hid fun (u : World) (r : Bool) (hb : Below w.heap.size w u) (h : (List.range l.length).any (fun k => Fa.tbad (l.getD k (0, 0))) = r) => hasbadT_any l v u r (hv.below hb) hm h
  have HS := Lib.hid fun (u : World) (hb : Below w.heap.size w u) (h : l.length ≤ 1024) (ht : ∀ j, j < l.length → Fa.tbad (l.getD j (0, 0)) = false) => fsums_any l v u (hv.below hb) h ht
  obtain ⟨A, c, rfl, _⟩ := hv.opened
  unfold maxLen at hm
  obtain ⟨n, hn⟩ : ∃ n, l.length = n := ⟨_, rfl⟩
  have HN := Lib.hid hn
  have HR := Lib.hid hr
  rw [hn] at hm HH HS ⊢
  clear hv hn hr
  obtain ⟨hbx, b0, b1, bf⟩ := HB.out
  have hf0 := bf 0
  have hf1 := bf 1
  by_cases h1 : 1024 < n
  · have h1' : (1024 : Int) < n := by omega
    have HE := Lib.hid (HR.out.symm.trans (Fa.of_long (by have := HN.out; omega)))
    go_enter Try.func24, Try.ntmps24
    go_wp2
    refine bodyPost_ret (v := .tuple #[.agg #[.slice none 0 0, .int .i64 0], .int .i64 4]) ?_ rfl ⟨_, by rw [HE.out], by rw [HE.out]; exact World.ownsRow_nil _ _ _ _, by first | exact hbx.1 | exact ((hbx.set (Nat.le_refl _) _).set (Nat.le_refl _) _).1⟩
    simp [results, Try.results24, go_sem, b0, b1]
  · have h1' : ¬ (1024 : Int) < n := by omega
    cases h2 : Fa.inC most
    · have HI := Lib.hid h2
      have HE := Lib.hid (HR.out.symm.trans (Fa.of_most (by have := HN.out; omega) h2))
      clear h2
      go_enter Try.func24, Try.ntmps24
      go_wp2_with (go_at_call 37; refine (fcoef_any most false HI.out _).mono ?_; rintro e w' ⟨rfl, rfl⟩)
      refine bodyPost_ret (v := .tuple #[.agg #[.slice none 0 0, .int .i64 0], .int .i64 3]) ?_ rfl ⟨_, by rw [HE.out], by rw [HE.out]; exact World.ownsRow_nil _ _ _ _, by first | exact hbx.1 | exact ((hbx.set (Nat.le_refl _) _).set (Nat.le_refl _) _).1⟩
      simp [results, Try.results24, go_sem, b0, b1]
    · have HI := Lib.hid h2
      have HI2 := Lib.hid h2
      clear h2
      cases h3 : (List.range n).any fun k => Fa.tbad (l.getD k (0, 0))
      · have H3 := Lib.hid h3
        have HG := Lib.hid (show ∀ j, j < l.length → Fa.tbad (l.getD j (0, 0)) = false from fun j hj => any_false h3 j (by have := HN.out; omega))
        have HRes := Lib.hid (HR.out.symm.trans (Fa.of_good (by have := HN.out; omega) HI.out HG.out))
        clear h3 b0 b1 hf0 hf1 hbx bf
        obtain ⟨q, hq⟩ : ∃ q, Fa.normTo l 256 = q := ⟨_, rfl⟩
        have HRt := Lib.hid (Fa.right_is (l := l))
        have hql := Fa.norm_len l 256
        rw [hq] at HRes HRt HS hql
        clear hq
        obtain ⟨Q, hQ⟩ : ∃ Q, q.length = Q := ⟨_, rfl⟩
        have HQ := Lib.hid hQ
        rw [hQ] at hql
        go_enter Try.func24, Try.ntmps24
        go_wp2_with (first | (go_at_call 37; refine (fcoef_any most true HI.out _).mono ?_; rintro e w' ⟨rfl, rfl⟩) | (go_at_call 43; refine (HH.out _ false HB.out.1.1 H3.out).mono ?_; rintro e w2 ⟨rfl, hb2⟩; have HB2 := Lib.hid (HB.out.below hb2); clear hb2))
        refine (HS.out _ HB2.out.1.1 (by omega) (fun j hj => HG.out j (by have := HN.out; omega))).mono ?_
        rintro e w3 ⟨v3, rfl, hO3, hb3⟩
        have HB3 := Lib.hid (HB2.out.below hb3)
        have hP3 : PrsIn w3 v3 q := RowIn.own hO3
        have HC3 := Lib.hid fun (u : World) (r : Bool) (hb : Below w3.heap.size w3 u) (h : (List.range q.length).any (fun k => Fa.tbad (q.getD k (0, 0))) = r) => hasbadT_any q v3 u r (hP3.below hb) (by unfold maxLen; omega) h
        obtain ⟨A3, c3, rfl, _⟩ := hP3.opened
        have HO3 := Lib.hid hO3
        have HLt := Lib.hid (show w.heap.size < w2.heap.size from HB2.out.1.lt0 (by omega))
        clear hO3 hb3 hP3 HS HH HB2
        rw [hQ] at HC3 HRt
        have e3 : Value.slice A3 q.length c3 = .slice A3 Q c3 := by rw [hQ]
        rw [e3] at HO3 ⊢
        clear e3
        by_cases h4 : 64 < Q
        · have h4' : (64 : Int) < Q := by omega
          have HE := Lib.hid (HRes.out.trans (if_pos (by have := HQ.out; omega)))
          clear HRes hQ
          obtain ⟨hbx, b0, b1, bf⟩ := HB3.out
          have hf0 := bf 0
          have hf1 := bf 1
          go_wp2
          refine bodyPost_ret (v := .tuple #[.agg #[.slice none 0 0, .int .i64 0], .int .i64 4]) ?_ rfl ⟨_, by rw [HE.out], by rw [HE.out]; exact World.ownsRow_nil _ _ _ _, by first | exact hbx.1 | exact ((hbx.set (Nat.le_refl _) _).set (Nat.le_refl _) _).1⟩
          simp [results, Try.results24, go_sem, b0, b1, hbx.lt0]
        · have h4' : ¬ (64 : Int) < Q := by omega
          have HRes2 := Lib.hid (HRes.out.trans (if_neg (by have := HQ.out; omega)))
          clear HRes hQ
          cases h5 : (List.range Q).any fun k => Fa.tbad (q.getD k (0, 0))
          · have H5 := Lib.hid h5
            have HE := Lib.hid (HRes2.out.trans (if_neg (by rw [HRt.out, h5]; decide)))
            clear h5 HRes2
            go_wp2_with (go_at_call 43; refine (HC3.out _ false (Below.refl _ _) H5.out).mono ?_; rintro e w4 ⟨rfl, hb4⟩; have HB4 := Lib.hid (HB3.out.below hb4); have HO4 := Lib.hid (own_below HO3.out hb4); clear hb4; obtain ⟨hbx, b0, b1, bf⟩ := HB4.out; have hf0 := bf 0; have hf1 := bf 1)
            refine bodyPost_ret (v := .tuple #[.agg #[.slice A3 Q c3, .int .i64 most], .int .i64 0]) ?_ rfl ⟨.slice A3 Q c3, by rw [HE.out], ?_, ((hbx.set (Nat.le_refl _) _).set (Nat.le_refl _) _).1⟩
            · simp [results, Try.results24, go_sem, b0, b1, hbx.lt0]
            · rw [HE.out]
              exact own_two HO4.out HLt.out (Nat.le_of_lt HLt.out) _ _
          · have H5 := Lib.hid h5
            have HE := Lib.hid (HRes2.out.trans (if_pos (by rw [HRt.out, h5]; rfl)))
            clear h5 HRes2
            go_wp2_with (go_at_call 43; refine (HC3.out _ true (Below.refl _ _) H5.out).mono ?_; rintro e w4 ⟨rfl, hb4⟩; have HB4 := Lib.hid (HB3.out.below hb4); clear hb4; obtain ⟨hbx, b0, b1, bf⟩ := HB4.out; have hf0 := bf 0; have hf1 := bf 1)
            refine bodyPost_ret (v := .tuple #[.agg #[.slice none 0 0, .int .i64 0], .int .i64 3]) ?_ rfl ⟨_, by rw [HE.out], by rw [HE.out]; exact World.ownsRow_nil _ _ _ _, by first | exact hbx.1 | exact ((hbx.set (Nat.le_refl _) _).set (Nat.le_refl _) _).1⟩
            simp [results, Try.results24, go_sem, b0, b1, hbx.lt0]
      · have H3 := Lib.hid h3
        obtain ⟨i, hi, hbi⟩ := any_true h3
        have HE := Lib.hid (HR.out.symm.trans (Fa.of_bad (by have := HN.out; omega) HI.out (i := i) (by have := HN.out; omega) hbi))
        clear h3 hbi hi
        clear b0 b1 hf0 hf1 hbx bf
        go_enter Try.func24, Try.ntmps24
        go_wp2_with (first | (go_at_call 37; refine (fcoef_any most true HI.out _).mono ?_; rintro e w' ⟨rfl, rfl⟩) | (go_at_call 43; refine (HH.out _ true HB.out.1.1 H3.out).mono ?_; rintro e w2 ⟨rfl, hb2⟩; have HB2 := Lib.hid (HB.out.below hb2); clear hb2; obtain ⟨hbx, b0, b1, bf⟩ := HB2.out; have hf0 := bf 0; have hf1 := bf 1))
        refine bodyPost_ret (v := .tuple #[.agg #[.slice none 0 0, .int .i64 0], .int .i64 3]) ?_ rfl ⟨_, by rw [HE.out], by rw [HE.out]; exact World.ownsRow_nil _ _ _ _, by first | exact hbx.1 | exact ((hbx.set (Nat.le_refl _) _).set (Nat.le_refl _) _).1⟩
        simp [results, Try.results24, go_sem, b0, b1, hbx.lt0]
end Go.Proofs.Ytpinncjnfbebkaa
