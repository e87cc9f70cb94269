/- Package instr's Decode. No condition. -/
import Derived.Test.YthcjohfngnffpaaInRe
import Derived.Test.YthcjohfngnffpaaInDf
import Derived.Laws.Cover3
namespace Go.Proofs.Ythcjohfngnffpaa
open Go.RowKit
set_option linter.unusedVariables false
set_option linter.unusedSimpArgs false
attribute [local go_sem] y_undef
def slN : Value → Nat | .slice _ m _ => m | _ => 0
set_option maxRecDepth 100000 in
set_option maxHeartbeats 40000000 in
theorem idec_any (B : List Int) (v : Value) (w : World) (hv : BytL w v B) (hsn : ∀ A n c, v = .slice A n c → n ≤ c) (hR : ∀ z ∈ B, 0 ≤ z ∧ z ≤ 255) (hm : B.length ≤ maxLen) : Calls Try.prog 12 #[v] w (DePost w B) := by
  obtain ⟨A, c, rfl, ho⟩ := hv.opened
  have hnc := hsn _ _ _ rfl
  unfold maxLen at hm
  obtain ⟨n, hn⟩ : ∃ n, B.length = n := ⟨_, rfl⟩
  rw [hn] at hm ho hnc ⊢
  have HN := Lib.hid hn
  clear hn hv hsn
  have HR := Lib.hid hR
  clear hR
  by_cases h1 : n % 8 = 0
  · by_cases h2 : n ≤ 8192
    · have h1' : (n : Int) % 8 = 0 := by omega
      have h2' : ¬ (8192 : Int) < n := by omega
      have HO := Lib.hid ho
      clear ho
      obtain ⟨iT, hi0, hz0, hz1, hz2⟩ := info_parts minfo_in
      have hmk : ∀ u : World, (Instr.makeSlice 24 (.int .i64 0) (.int .i64 ((n : Int) / 8))).run Try.prog u = .ok (.slice (some ⟨u.heap.size, 0, none⟩) 0 (n / 8)) (u.alloc (.cells (madeCells #[.int .i64 0, .int .i64 0, .int .i64 0, .int .i64 0, .int .i64 0, .int .i64 0] (n / 8 * 6)) 26)) := fun u => by
        have := mk_none 24 26 iT _ 6 48 Try.underlying24 hi0 hz0 hz1 hz2 (n / 8) (by omega) (by omega) u
        rw [show ((n / 8 : Nat) : Int) = (n : Int) / 8 from by omega] at this
        exact this
      have HI : Hid (DeS w B 0 (.slice (some ⟨w.heap.size, 0, none⟩) 0 (n / 8)) (w.alloc (.cells (madeCells #[.int .i64 0, .int .i64 0, .int .i64 0, .int .i64 0, .int .i64 0, .int .i64 0] (n / 8 * 6)) 26))) := Lib.hid ⟨bla (Below.refl _ _) _, by
        have h := World.ownsRow_made (base := w.heap.size) (e := 26) (size := 6) w (madeCells #[.int .i64 0, .int .i64 0, .int .i64 0, .int .i64 0, .int .i64 0, .int .i64 0] (n / 8 * 6)) (n / 8) (Nat.le_refl _) (by unfold maxLen; omega) (by simp [madeCells])
        exact h, fun j hj => absurd hj (Nat.not_lt_zero _)⟩
      have HIT := Lib.hid (And.intro hi0 (And.intro hz0 (And.intro hz1 hz2)))
      clear hi0 hz0 hz1 hz2
      go_enter Try.func12, Try.ntmps12
      go_wp2_with fail
      go_loopw [0, 4, 5] (fun b y _ wr => ∃ (j K m : Nat) (A' : Option Addr) (c' : Nat) (z : Value), 8 * j = K ∧ K + m = n ∧ m ≤ c' ∧ b = .slice A' m c' ∧ z = y ∧ Hid ((0 < m → ∀ bb off, A = some ⟨bb, off, none⟩ → A' = some ⟨bb, off + K, none⟩) ∧ DeS w B j z wr)) (fun b _ _ _ => slN b)
      case atStart => exact ⟨0, 0, n, _, _, _, rfl, by omega, hnc, rfl, rfl, Lib.hid ⟨fun _ _ _ h => h, HI.out⟩⟩
      case round =>
        obtain ⟨j, K, m, A', c', z, hK, hKn, hmc, rfl, rfl, HS⟩ := hrel
        clear HI hmk
        by_cases hlt : (0 : Int) < m
        · have hR := HR.out
          have hlen := HN.out
          obtain ⟨bb, off, rfl, hb0, hc⟩ : ∃ bb off, A = some ⟨bb, off, none⟩ ∧ bb < w.heap.size ∧ ∀ i, i < n → w.cell? ⟨bb, off + i, none⟩ = some (.int .u8 (B.getD i 0)) := by
            rcases HO.out with h | h
            · omega
            · exact h
          have hA' := HS.out.1 (by omega) bb off rfl
          subst hA'
          have hbs := HS.out.2.bel
          have hz : ∀ i, i < 8 → wr.cell? ⟨bb, off + K + i, none⟩ = some (.int .u8 (B.getD (K + i) 0)) := fun i hi => by
            have := (hbs.cell (p := ⟨bb, off + (K + i), none⟩) hb0).trans (hc (K + i) (by omega))
            rwa [← Nat.add_assoc] at this
          have hbs0 := hbs.size
          have z0 := hz 0 (by omega)
          have x0 := byte_at hR (K + 0)
          have z1 := hz 1 (by omega)
          have x1 := byte_at hR (K + 1)
          have z2 := hz 2 (by omega)
          have x2 := byte_at hR (K + 2)
          have z3 := hz 3 (by omega)
          have x3 := byte_at hR (K + 3)
          have z4 := hz 4 (by omega)
          have x4 := byte_at hR (K + 4)
          have z5 := hz 5 (by omega)
          have x5 := byte_at hR (K + 5)
          have z6 := hz 6 (by omega)
          have x6 := byte_at hR (K + 6)
          have z7 := hz 7 (by omega)
          have x7 := byte_at hR (K + 7)
          have hde := de_at B j hK
          clear hz hc hbs hR hlen
          rw [show B.getD K 0 = B.getD (K + 0) 0 from rfl] at hde
          generalize B.getD (K + 0) 0 = b0 at *
          generalize B.getD (K + 1) 0 = b1 at *
          generalize B.getD (K + 2) 0 = b2 at *
          generalize B.getD (K + 3) 0 = b3 at *
          generalize B.getD (K + 4) 0 = b4 at *
          generalize B.getD (K + 5) 0 = b5 at *
          generalize B.getD (K + 6) 0 = b6 at *
          generalize B.getD (K + 7) 0 = b7 at *
          have HDe := Lib.hid hde
          have HRd := Lib.hid fun (u : World) => read_any b0 b1 b2 b3 b4 b5 b6 b7 u x0 x1 x2 x3 x4 x5 x6 x7
          clear hde x0 x1 x2 x3 x4 x5 x6 x7
          generalize b1 / 16 = p1 at *
          generalize b1 % 16 = p2 at *
          generalize In.wd b4 b5 b6 b7 = M at *
          unfold iAgg at HRd
          simp only at HRd
          have hm8 : 8 ≤ m := by omega
          have hat : ∀ u : World, (Instr.arrayAt 64 (.slice (some ⟨bb, off + K, none⟩) m c')).run Try.prog u = .ok (.pointer (some ⟨bb, off + K, none⟩)) u := fun u => run_arrayAt u _ _ 8 _ m c' Try.underlying64 hm8
          simp only [Nat.add_zero] at z0
          obtain ⟨q, hq⟩ : ∃ q, In.chk ⟨b0, p1, p2, b2, b3, M⟩ = q := ⟨_, rfl⟩
          have HQ := Lib.hid hq
          have HK := Lib.hid (icheck_any ⟨b0, p1, p2, b2, b3, M⟩ q hq)
          clear hq
          unfold iAgg at HK
          simp only at HK
          by_cases h0 : q = 0
          · go_wp2_with (first | (go_at_call 26; refine (HRd.out _).mono ?_; rintro e u0 ⟨rfl, hb⟩; have HB := Lib.hid (And.intro (Bk.new u0 26 #[.int .i64 b0, .int .i64 p1, .int .i64 p2, .int .i64 b2, .int .i64 b3, .int .i64 M]) ((HS.out.2.below hb).below (bla (Below.refl _ _) (.cells #[.int .i64 b0, .int .i64 p1, .int .i64 p2, .int .i64 b2, .int .i64 b3, .int .i64 M] 26)))); clear hb) | (go_at_call 22; refine (HK.out _).mono ?_; rintro e u ⟨rfl, hb⟩; have HC := Lib.hid (And.intro (HB.out.1.below hb) (HB.out.2.below hb)); clear hb; have c0 := HC.out.1.cell 0; have c1 := HC.out.1.cell 1; have c2 := HC.out.1.cell 2; have c3 := HC.out.1.cell 3; have c4 := HC.out.1.cell 4; have c5 := HC.out.1.cell 5; simp at c0 c1 c2 c3 c4 c5) | (at_builtin; refine wpList_append_row rfl _ _ 24 rfl w.heap.size 26 iT _ 6 48 Try.underlying24 HIT.out.1 HIT.out.2.1 HIT.out.2.2.1 HIT.out.2.2.2 rfl (by decide) _ _ _ rfl (own_below HC.out.2.row (bla (Below.refl _ _) _)) _ _ _ rfl (lit_in u _ _ _ _ _ _ _ rfl) ?qc3 ?qc4 ?qc5 ?qc6 ?_))
            case qc3 => exact one_in
            case qc4 => unfold maxLen; omega
            case qc5 => omega
            case qc6 => rw [size_alloc]; have := HC.out.2.bel.size; omega
            intro v2 w3 hown hg hv2
            have HN2 := Lib.hid ((HC.out.2.below (bla (Below.refl _ _) _)).push (by rw [HDe.out]; exact HQ.out.trans h0) (by rw [HDe.out]; exact hown) hg)
            clear hown hg hv2 HC HB c0 c1 c2 c3 c4 c5 z0 z1 z2 z3 z4 z5 z6 z7 HRd HK
            go_wp2
            refine ⟨⟨j + 1, K + 8, m - 8, _, c' - 8, v2, by omega, by omega, by omega, rfl, rfl, Lib.hid ⟨fun h0 bb1 off1 e => ?_, HN2.out⟩⟩, ?_⟩
            · injection e with e
              injection e with e1 e2 _
              subst e1 e2
              rw [if_neg (by omega), Nat.add_assoc]
            · show m - 8 < m
              omega
          · have HG := Lib.hid (show In.good B = false from In.good_not (k := j) (by rw [HN.out]; omega) (by rw [HDe.out, HQ.out]; exact h0))
            go_wp2_with (first | (go_at_call 26; refine (HRd.out _).mono ?_; rintro e u0 ⟨rfl, hb⟩; have HB := Lib.hid ((HS.out.2.below hb).below (bla (Below.refl _ _) (.cells #[.int .i64 b0, .int .i64 p1, .int .i64 p2, .int .i64 b2, .int .i64 b3, .int .i64 M] 26))); clear hb) | (go_at_call 22; refine (HK.out _).mono ?_; rintro e u ⟨rfl, hb⟩; have HC := Lib.hid (HB.out.below hb); clear hb))
            have HP := DePost.bad HG.out HC.out.bel
            refine bodyPost_ret (v := .tuple #[.slice none 0 0, .int .i64 (In.dno B)]) ?_ rfl HP.2
            simp [results, Try.results12, go_sem, HP.1]
        · have hm0 : m = 0 := by omega
          subst hm0
          have hj : j = n / 8 := by omega
          subst hj
          have HF := Lib.hid (DeS.fin (b := B) (w := w) (u := wr) (y := z) (by rw [HN.out]; exact HS.out.2) (by rw [HN.out]; exact h1) (by rw [HN.out]; exact h2))
          clear HS
          go_wp2
          refine bodyPost_ret (v := .tuple #[z, .int .i64 (In.dno B)]) ?_ rfl HF.out.2
          simp [results, Try.results12, go_sem, HF.out.1]
    · have h1' : (n : Int) % 8 = 0 := by omega
      have h2' : (8192 : Int) < n := by omega
      have HP := Lib.hid (DePost.bad (w := w) (b := B) (u := w) (by unfold In.good; rw [HN.out]; simp [h2]) (Below.refl _ _))
      clear ho
      go_enter Try.func12, Try.ntmps12
      go_wp2
      refine bodyPost_ret (v := .tuple #[.slice none 0 0, .int .i64 (In.dno B)]) ?_ rfl HP.out.2
      simp [results, Try.results12, go_sem, HP.out.1]
  · have h1' : ¬ (n : Int) % 8 = 0 := by omega
    have HP := Lib.hid (DePost.bad (w := w) (b := B) (u := w) (by unfold In.good; rw [HN.out]; simp [h1]) (Below.refl _ _))
    clear ho
    go_enter Try.func12, Try.ntmps12
    go_wp2
    refine bodyPost_ret (v := .tuple #[.slice none 0 0, .int .i64 (In.dno B)]) ?_ rfl HP.out.2
    simp [results, Try.results12, go_sem, HP.out.1]
end Go.Proofs.Ythcjohfngnffpaa
