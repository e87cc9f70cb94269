/- The specification's Decode, walked. No condition. -/
import Derived.Test.YthcjohfngnffpaaInDe
import Derived.Test.YthcjohfngnffpaaWdRef
import Derived.Deep.QuietTactic
namespace Go.Proofs.Ythcjohfngnffpaa
open Go.RowKit
set_option linter.unusedVariables false
set_option linter.unusedSimpArgs false
attribute [local go_sem] y_undef
theorem de_at (b : List Int) (j : Nat) {K : Nat} (hK : 8 * j = K) : In.de b j = ⟨b.getD K 0, b.getD (K + 1) 0 / 16, b.getD (K + 1) 0 % 16, b.getD (K + 2) 0, b.getD (K + 3) 0, In.wd (b.getD (K + 4) 0) (b.getD (K + 5) 0) (b.getD (K + 6) 0) (b.getD (K + 7) 0)⟩ := by subst hK; rfl
set_option maxRecDepth 100000 in
set_option maxHeartbeats 40000000 in
theorem rdec_any (B : List Int) (v : Value) (w : World) (hv : BytL w v B) (hR : ∀ z ∈ B, 0 ≤ z ∧ z ≤ 255) (hm : B.length ≤ maxLen) : Calls Try.prog 20 #[v] w (DePost w B) := by
  obtain ⟨A, c, rfl, ho⟩ := hv.opened
  unfold maxLen at hm
  obtain ⟨n, hn⟩ : ∃ n, B.length = n := ⟨_, rfl⟩
  rw [hn] at hm ho ⊢
  have HN := Lib.hid hn
  clear hn hv
  have HR := Lib.hid hR
  clear hR
  by_cases h1 : n % 8 = 0
  · by_cases h2 : n ≤ 8192
    · have h1' : (n : Int) % 8 = 0 := by omega
      have h2' : ¬ (8192 : Int) < n := by omega
      have HO := Lib.hid ho
      clear ho
      obtain ⟨iT, hi0, hz0, hz1, hz2⟩ := info_parts minfo_in
      have HIT := Lib.hid (And.intro hi0 (And.intro hz0 (And.intro hz1 hz2)))
      clear hi0 hz0 hz1 hz2
      go_enter Try.func20, Try.ntmps20
      go_wp2_with fail
      go_loopw [4, 5, 6, 7] (fun y k _ _ wr => ∃ (j K : Nat) (z : Value), 8 * j = K ∧ K ≤ n ∧ k = .int .i64 (K : Nat) ∧ z = y ∧ Hid (DeS w B j z wr)) (fun _ k _ _ _ => n - (intOf k).toNat)
      case atStart => exact ⟨0, 0, _, rfl, by omega, rfl, rfl, Lib.hid ⟨Below.refl _ _, World.ownsRow_nil _ _ _ _, fun j hj => absurd hj (Nat.not_lt_zero _)⟩⟩
      case round =>
        obtain ⟨j, K, z, hK, hKn, rfl, rfl, HS⟩ := hrel
        by_cases hlt : (K : Int) < n
        · have hR := HR.out
          have hlen := HN.out
          obtain ⟨bb, off, rfl, hb0, hc⟩ : ∃ bb off, A = some ⟨bb, off, none⟩ ∧ bb < w.heap.size ∧ ∀ i, i < n → w.cell? ⟨bb, off + i, none⟩ = some (.int .u8 (B.getD i 0)) := by
            rcases HO.out with h | h
            · omega
            · exact h
          have hbs := HS.out.bel
          have hz : ∀ i, i < n → wr.cell? ⟨bb, off + i, none⟩ = some (.int .u8 (B.getD i 0)) := fun i hi => (hbs.cell (p := ⟨bb, off + i, none⟩) hb0).trans (hc i hi)
          have hbs0 := hbs.size
          have z0 := hz K (by omega)
          have x0 := byte_at hR K
          have z1 := hz (K + 1) (by omega)
          have x1 := byte_at hR (K + 1)
          have z2 := hz (K + 2) (by omega)
          have x2 := byte_at hR (K + 2)
          have z3 := hz (K + 3) (by omega)
          have x3 := byte_at hR (K + 3)
          have z4 := hz (K + 4) (by omega)
          have x4 := byte_at hR (K + 4)
          have z5 := hz (K + 5) (by omega)
          have x5 := byte_at hR (K + 5)
          have z6 := hz (K + 6) (by omega)
          have x6 := byte_at hR (K + 6)
          have z7 := hz (K + 7) (by omega)
          have x7 := byte_at hR (K + 7)
          have hde := de_at B j hK
          clear hz hc hbs hR hlen
          generalize B.getD K 0 = b0 at *
          generalize B.getD (K + 1) 0 = b1 at *
          generalize B.getD (K + 2) 0 = b2 at *
          generalize B.getD (K + 3) 0 = b3 at *
          generalize B.getD (K + 4) 0 = b4 at *
          generalize B.getD (K + 5) 0 = b5 at *
          generalize B.getD (K + 6) 0 = b6 at *
          generalize B.getD (K + 7) 0 = b7 at *
          have ho4 := or4 x4.1 x4.2 x5.1 x5.2 x6.1 x6.2 x7.1 x7.2
          have HDe := Lib.hid hde
          have HO4 := Lib.hid ho4
          clear hde ho4
          have e1 : wrap64 (b4 * 16777216) = b4 * 16777216 := wrap64_same ⟨by omega, by omega⟩
          have e2 : wrap64 (b5 * 65536) = b5 * 65536 := wrap64_same ⟨by omega, by omega⟩
          have e3 : wrap64 (b6 * 256) = b6 * 256 := wrap64_same ⟨by omega, by omega⟩
          go_wp2_with fail
          go_quiet ((go_at_call 33; exact Calls.quiet_of_same ((wdWrap_any _ _).mono fun _ _ h => ⟨h.1, h.2.symm⟩)))
          rw [HO4.out]
          obtain ⟨M, hM⟩ : ∃ M, wrap32 (b4 * 16777216 + b5 * 65536 + b6 * 256 + b7) = M := ⟨_, rfl⟩
          rw [hM]
          have hDe := HDe.out
          unfold In.wd at hDe
          rw [hM] at hDe
          have HDe := Lib.hid hDe
          clear hDe hM e1 e2 e3 HO4
          obtain ⟨W2, hW2⟩ : ∃ W2, wr.drewN nq = W2 := ⟨_, rfl⟩
          rw [hW2]
          have hb2 : Below wr.heap.size wr W2 := by rw [← hW2]; exact below_drewN _ _ _
          have HS := Lib.hid (HS.out.below hb2)
          have z0 : W2.cell? ⟨bb, off + K, none⟩ = some (.int .u8 b0) := by rw [← hW2]; exact z0
          have z1 : W2.cell? ⟨bb, off + (K + 1), none⟩ = some (.int .u8 b1) := by rw [← hW2]; exact z1
          have z2 : W2.cell? ⟨bb, off + (K + 2), none⟩ = some (.int .u8 b2) := by rw [← hW2]; exact z2
          have z3 : W2.cell? ⟨bb, off + (K + 3), none⟩ = some (.int .u8 b3) := by rw [← hW2]; exact z3
          clear hW2 hb2
          have hl2 : bb < W2.heap.size := by have := HS.out.bel.size; omega
          have d1 : wrap64 (b1 / 16) = b1 / 16 := wrap64_same ⟨by omega, by omega⟩
          have d2 : IntKind.i64.wrap b1 = b1 := IntWalk.i64_in _ (by omega)
          have d3 : b1.tmod 16 = b1 % 16 := Int.tmod_eq_emod_of_nonneg (by omega)
          have d4 : b1.tdiv 16 = b1 / 16 := Int.tdiv_eq_ediv_of_nonneg (by omega)
          go_wp2_with fail
          go_cut [7] from 54 to 87 (fun y wc => ∃ G : Nat, y = .pointer (some ⟨G, 0, none⟩) ∧ Hid (Bk wc G 26 #[.int .i64 b0, .int .i64 (b1 / 16), .int .i64 (b1 % 16), .int .i64 b2, .int .i64 b3, .int .i64 M] ∧ DeS w B j z wc))
          case first =>
            go_wp2_with fail
            go_region
            go_wp2
            go_meet
            case rel => exact ⟨_, rfl, Lib.hid ⟨(Bk.new _ _ _).below (below_drewN _ _ 1), (HS.out.below (bla (Below.refl _ _) _)).below (below_drewN _ _ 1)⟩⟩
          case rest =>
          obtain ⟨G, rfl, HB⟩ := hcut
          clear d1 d2 d3 d4 z0 z1 z2 z3 z4 z5 z6 z7 x0 x1 x2 x3 x4 x5 x6 x7
          generalize b1 / 16 = p1 at *
          generalize b1 % 16 = p2 at *
          have c0 := HB.out.1.cell 0
          have c1 := HB.out.1.cell 1
          have c2 := HB.out.1.cell 2
          have c3 := HB.out.1.cell 3
          have c4 := HB.out.1.cell 4
          have c5 := HB.out.1.cell 5
          simp at c0 c1 c2 c3 c4 c5
          obtain ⟨q, hq⟩ : ∃ q, In.chk ⟨b0, p1, p2, b2, b3, M⟩ = q := ⟨_, rfl⟩
          have HQ := Lib.hid hq
          have HK := Lib.hid (rchk_any ⟨b0, p1, p2, b2, b3, M⟩ q hq)
          clear hq
          unfold iAgg at HK
          simp only at HK
          by_cases h0 : q = 0
          · go_wp2_with (first | (go_at_call 19; refine (HK.out _).mono ?_; rintro e u ⟨rfl, hb⟩; have HC := Lib.hid (And.intro (HB.out.1.below hb) (HB.out.2.below hb)); clear hb; have c0 := HC.out.1.cell 0; have c1 := HC.out.1.cell 1; have c2 := HC.out.1.cell 2; have c3 := HC.out.1.cell 3; have c4 := HC.out.1.cell 4; have c5 := HC.out.1.cell 5; simp at c0 c1 c2 c3 c4 c5) | (at_builtin; refine wpList_append_row rfl _ _ 24 rfl w.heap.size 26 iT _ 6 48 Try.underlying24 HIT.out.1 HIT.out.2.1 HIT.out.2.2.1 HIT.out.2.2.2 rfl (by decide) _ _ _ rfl (own_below HC.out.2.row (bla (Below.refl _ _) _)) _ _ _ rfl (lit_in u _ _ _ _ _ _ _ rfl) ?qc3 ?qc4 ?qc5 ?qc6 ?_))
            case qc3 => exact one_in
            case qc4 => unfold maxLen; omega
            case qc5 => omega
            case qc6 => rw [size_alloc]; have := HC.out.2.bel.size; omega
            intro v2 w3 hown hg hv2
            have HN2 := Lib.hid ((HC.out.2.below (bla (Below.refl _ _) _)).push (by rw [HDe.out]; exact HQ.out.trans h0) (by rw [HDe.out]; exact hown) hg)
            clear hown hg hv2 HC HB c0 c1 c2 c3 c4 c5
            go_wp2
            exact ⟨⟨j + 1, K + 8, _, by omega, by omega, by first | rfl | go_num, rfl, HN2⟩, by simp [intOf]; omega⟩
          · have HG := Lib.hid (show In.good B = false from In.good_not (k := j) (by rw [HN.out]; omega) (by rw [HDe.out, HQ.out]; exact h0))
            go_wp2_with (go_at_call 19; refine (HK.out _).mono ?_; rintro e u ⟨rfl, hb⟩; have HC := Lib.hid (HB.out.2.below hb); clear hb)
            have HP := DePost.bad HG.out HC.out.bel
            refine bodyPost_ret (v := .tuple #[.slice none 0 0, .int .i64 (In.dno B)]) ?_ rfl HP.2
            simp [results, Try.results20, go_sem, HP.1]
        · have hKe : K = n := by omega
          subst hKe
          have hj : j = K / 8 := by omega
          subst hj
          have HF := Lib.hid (DeS.fin (b := B) (w := w) (u := wr) (y := z) (by rw [HN.out]; exact HS.out) (by rw [HN.out]; exact h1) (by rw [HN.out]; exact h2))
          clear HS
          go_wp2
          refine bodyPost_ret (v := .tuple #[z, .int .i64 (In.dno B)]) ?_ rfl HF.out.2
          simp [results, Try.results20, go_sem, HF.out.1]
    · have h1' : (n : Int) % 8 = 0 := by omega
      have h2' : (8192 : Int) < n := by omega
      have HP := Lib.hid (DePost.bad (w := w) (b := B) (u := w) (by unfold In.good; rw [HN.out]; simp [h2]) (Below.refl _ _))
      clear ho
      go_enter Try.func20, Try.ntmps20
      go_wp2
      refine bodyPost_ret (v := .tuple #[.slice none 0 0, .int .i64 (In.dno B)]) ?_ rfl HP.out.2
      simp [results, Try.results20, go_sem, HP.out.1]
  · have h1' : ¬ (n : Int) % 8 = 0 := by omega
    have HP := Lib.hid (DePost.bad (w := w) (b := B) (u := w) (by unfold In.good; rw [HN.out]; simp [h1]) (Below.refl _ _))
    clear ho
    go_enter Try.func20, Try.ntmps20
    go_wp2
    refine bodyPost_ret (v := .tuple #[.slice none 0 0, .int .i64 (In.dno B)]) ?_ rfl HP.out.2
    simp [results, Try.results20, go_sem, HP.out.1]
end Go.Proofs.Ythcjohfngnffpaa
