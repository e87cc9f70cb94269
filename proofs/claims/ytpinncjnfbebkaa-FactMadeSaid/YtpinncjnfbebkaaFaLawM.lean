/- The walk of the law FactMade: it answers true. -/
import Derived.Test.YtpinncjnfbebkaaFaAgree
import Derived.Deep.DeepCutAuto
namespace Go.Proofs.Ytpinncjnfbebkaa
open Go.RowKit
set_option linter.unusedVariables false
set_option linter.unusedSimpArgs false
attribute [local go_sem] y_undef
/-- A step that changes nothing old but blocks from lo up to hi. -/
structure Mut (lo hi : Nat) (w w' : World) : Prop where
  os : w'.os = w.os
  tape : w'.tape = w.tape
  output : w'.output = w.output
  size : w.heap.size ≤ w'.heap.size
  block : ∀ b, b < w.heap.size → ¬ (lo ≤ b ∧ b < hi) → w'.heap[b]? = w.heap[b]?
section
variable {w w' w'' : World} {lo hi base : Nat}
theorem Mut.refl (lo hi : Nat) (w : World) : Mut lo hi w w := ⟨rfl, rfl, rfl, Nat.le_refl _, fun _ _ _ => rfl⟩
theorem Mut.trans (h : Mut lo hi w w') (k : Mut lo hi w' w'') : Mut lo hi w w'' :=
  ⟨k.os.trans h.os, k.tape.trans h.tape, k.output.trans h.output, Nat.le_trans h.size k.size, fun b hb hn => (k.block b (Nat.lt_of_lt_of_le hb h.size) hn).trans (h.block b hb hn)⟩
theorem Mut.ofBelow (h : Below w.heap.size w w') (lo hi : Nat) : Mut lo hi w w' := ⟨h.os, h.tape, h.output, h.size, fun b hb _ => h.block b hb⟩
theorem Mut.ofGrown {r : Option Nat} (h : w.grownBy w' r) (hr : ∀ k, r = some k → lo ≤ k ∧ k < hi) : Mut lo hi w w' := ⟨h.os, h.tape, h.output, h.size, fun b hb hn => h.block b hb (fun e => hn (hr b e.symm))⟩
theorem Mut.set {g i : Nat} (h : lo ≤ g ∧ g < hi) (w : World) (u : Value) : Mut lo hi w (w.setCell ⟨g, i, none⟩ u) := Mut.ofGrown (grown_set w g 0 i u) (fun k hk => by injection hk with hk; omega)
theorem Mut.below (h : Mut lo hi w w') (B : Nat) (hB : B ≤ lo) (hs : B ≤ w.heap.size) : Below B w w' := ⟨h.os, h.tape, h.output, h.size, fun b hb => h.block b (by omega) (by omega)⟩
theorem Mut.own {e : TypeId} {sz n : Nat} {v : Value} {xs : List Value} (h : Mut lo hi w w') (ho : w.ownsRow base e sz v n xs) (hv : ∀ k, v.ownBlock = some k → k < lo ∨ hi ≤ k) : w'.ownsRow base e sz v n xs := by
  refine ⟨ho.1, ?_⟩
  rcases ho.2 with hn | ⟨g, cap, cur, rfl, hb, hgg, rest⟩
  · exact .inl hn
  · refine .inr ⟨g, cap, cur, rfl, hb, ?_, rest⟩
    have := hv g rfl
    rw [h.block g (Array.getElem?_eq_some_iff.1 hgg).1 (by omega)]
    exact hgg
theorem Mut.bk {g : Nat} {t : TypeId} {cs : Array Value} (h : Mut lo hi w w') (hb : Bk w g t cs) (hg : g < lo ∨ hi ≤ g) : Bk w' g t cs := (h.block g hb.lt (by omega)).trans hb
theorem Mut.mps {y : Value} {us : List Value} {ts : List (List Int)} (h : Mut lo hi w w') (hm : Mps base w y us ts) (hy : ∀ k, y.ownBlock = some k → k < lo ∨ hi ≤ k) (hu : ∀ z ∈ us, ∀ k, z.ownBlock = some k → k < lo ∨ hi ≤ k) : Mps base w' y us ts :=
  ⟨h.own hm.1 hy, fun i x hx => h.own (hm.2.1 i x hx) (hu x (List.mem_of_getElem? hx)), hm.2.2⟩
end
/-- Element 0 of a row of one's own is another value. -/
theorem own_set0 {u : World} {base g : Nat} {e : TypeId} {n cap : Nat} {x z : Value} {xs : List Value} (h : u.ownsRow base e 1 (.slice (some ⟨g, 0, none⟩) n cap) n (x :: xs)) : (u.setCell ⟨g, 0, none⟩ z).ownsRow base e 1 (.slice (some ⟨g, 0, none⟩) n cap) n (z :: xs) := by
  refine ⟨by simpa using h.1, .inr ?_⟩
  rcases h.2 with ⟨h0, _⟩ | ⟨g', cap', cur, hs, hb, hg, hc, hm, hsz, ht⟩
  · injection h0 with h0; exact absurd h0 (by simp)
  · injection hs with h1 h2 h3
    injection h1 with h1
    injection h1 with h1 _ _
    subst h1 h3
    refine ⟨g, cap, cur.setIfInBounds 0 z, rfl, hb, ?_, hc, hm, by simpa using hsz, ?_⟩
    · simp [World.setCell, Array.getElem?_modify, hg]
    · have hcl : cur.toList.length = cap * 1 := by simpa using hsz
      rw [Array.toList_setIfInBounds]
      cases hl : cur.toList with
      | nil => rw [hl] at ht; simp at ht
      | cons c0 cr =>
        rw [hl] at ht
        cases hn : n * 1 with
        | zero => rw [hn] at ht; simp at ht
        | succ q =>
          rw [hn] at ht
          simp only [List.take_succ_cons, List.cons.injEq] at ht
          simp [List.take_succ_cons, ht.2]
/-- The first row has grown, and is put in its place. -/
theorem Mps.upd {u u1 : World} {base g cap : Nat} {x0 z : Value} {us : List Value} {q0 : List Int} {ts : List (List Int)} {a : Int} (h : Mps base u (.slice (some ⟨g, 0, none⟩) (ts.length + 1) cap) (x0 :: us) (q0 :: ts))
    (hown : u1.ownsRow base 3 1 z (q0.length + 1) (q0.map (Value.int .i64) ++ [.int .i64 a])) (hg : u.grownBy u1 x0.ownBlock) (hv : z.ownBlock = x0.ownBlock ∨ z.ownBlock = some u.heap.size) :
    Mps base (u1.setCell ⟨g, 0, none⟩ z) (.slice (some ⟨g, 0, none⟩) (ts.length + 1) cap) (z :: us) ((q0 ++ [a]) :: ts) := by
  obtain ⟨h1, h2, h3, h4⟩ := h
  rw [List.pairwise_cons] at h3
  have hy0 : Ap x0 (.slice (some ⟨g, 0, none⟩) (ts.length + 1) cap) := (h4 x0 (by simp)).symm
  have hk1 := h1.kept hg hy0.kept
  have hlt : g < u.heap.size := (h1.lt g rfl).2
  have hzy : Ap z (.slice (some ⟨g, 0, none⟩) (ts.length + 1) cap) := ap_new hv hy0 (fun k hk => by simp [Value.ownBlock] at hk; omega)
  have hset : ∀ {e : TypeId} {n : Nat} {v : Value} {xs : List Value}, u1.ownsRow base e 1 v n xs → Ap v (.slice (some ⟨g, 0, none⟩) (ts.length + 1) cap) → (u1.setCell ⟨g, 0, none⟩ z).ownsRow base e 1 v n xs := fun ho ha =>
    World.ownsRow.kept ho (grown_set u1 g 0 0 z) (by
      have := ha.symm.kept
      simpa [Value.ownBlock] using this)
  refine ⟨own_set0 hk1, fun i x hx => ?_, ?_, ?_⟩
  · cases i with
    | zero =>
      obtain rfl : z = x := by simpa using hx
      have := hset hown hzy
      simpa using this
    | succ i =>
      have hx' : us[i]? = some x := by simpa using hx
      have hmem := List.mem_of_getElem? hx'
      have := hset ((h2 (i + 1) x (by simpa using hx')).kept hg (h3.1 x hmem).kept) (h4 x (by simp [hmem])).symm
      simpa using this
  · rw [List.pairwise_cons]
    exact ⟨fun b hb => ap_new hv (h3.1 b hb) (fun k hk => by
      obtain ⟨i, hi, rfl⟩ := List.getElem_of_mem hb
      exact own_block_lt (h2 (i + 1) _ (by simp [hi])) hk), h3.2⟩
  · intro b hb
    rcases List.mem_cons.1 hb with rfl | hb
    · exact hzy.symm
    · exact h4 b (by simp [hb])
/-- What agree is called with. -/
def Fin (P : Nat) (x1 : Value) (l1 : Fa.Tms) (m1 : Int) (x2 : Value) (l2 : Fa.Tms) (m2 : Int) (c : Value) (cs : List Int) (y : Value) (ts : List (List Int)) (z : Value) (ps : List (List Int)) (u : World) : Prop :=
  (Bk u P 30 #[x1, .int .i64 m1] ∧ Bk u (P + 1) 30 #[x2, .int .i64 m2]) ∧ PrsIn u x1 l1 ∧ PrsIn u x2 l2 ∧ NumsIn u c cs ∧ LstsS u y ts ∧ LstsS u z ps
set_option maxRecDepth 100000 in
set_option maxHeartbeats 32000000 in
theorem made_law (v : Value) (zs : List Int) (what bY a b : Int) (w : World) (hv : IntsIn .i64 w v zs) (hvb : ∀ a n c, v = .slice (some a) n c → a.block < w.heap.size) (hm : zs.length ≤ maxLen) (hz : ∀ z ∈ zs, -9223372036854775808 ≤ z ∧ z ≤ 9223372036854775807)
    (hwhat : -9223372036854775808 ≤ what ∧ what ≤ 9223372036854775807) (hby : -9223372036854775808 ≤ bY ∧ bY ≤ 9223372036854775807) (ha : 0 ≤ a ∧ a ≤ 255) (hb : 0 ≤ b ∧ b ≤ 255) :
    Calls Try.prog 3 #[v, .int .i64 what, .int .i64 bY, .int .u8 a, .int .u8 b] w fun e w' => e = .returned (.bool true) ∧ Below w.heap.size w w' := by
  cases hfew : decide (zs.length ≤ 400)
  · have HF := Lib.hid (few_any v zs false w hv hm hfew)
    clear hv hvb hm hz hfew
    go_enter Try.func3, Try.ntmps3
    go_wp2_with fail
    refine HF.out.mono ?_
    rintro e w' ⟨rfl, rfl⟩
    go_wp2_with fail
    refine (awake_any _).mono ?_
    rintro e w5 ⟨rfl, hb5⟩
    go_wp2
    go_ret
    exact ⟨rfl, hb5⟩
  · have HF := Lib.hid (few_any v zs true w hv hm hfew)
    have HN := Lib.hid (newdeck_any v zs w hv hvb hm hz)
    clear hv hvb hm hz hfew
    have HA := Lib.hid (And.intro hwhat (And.intro hby (And.intro ha hb)))
    obtain ⟨iI, hi0, hz0, hz1, hz2⟩ := info_parts Try.infoInt
    have HII := Lib.hid (And.intro hi0 (And.intro hz0 (And.intro hz1 hz2)))
    clear hi0 hz0 hz1 hz2
    obtain ⟨iT, hi0, hz0, hz1, hz2⟩ := info_parts Try.infoTm
    have HIT := Lib.hid (And.intro hi0 (And.intro hz0 (And.intro hz1 hz2)))
    clear hi0 hz0 hz1 hz2
    go_enter Try.func3, Try.ntmps3
    go_wp2_with fail
    refine HF.out.mono ?_
    rintro e w' ⟨rfl, rfl⟩
    go_wp2_with fail
    refine HN.out.mono ?_
    rintro e w1 ⟨rfl, hd, hb1⟩
    have HB1 := Lib.hid hb1
    obtain ⟨D, hD⟩ : ∃ D, w.heap.size = D := ⟨_, rfl⟩
    have HD := Lib.hid hD
    rw [hD] at hd
    have HDk := Lib.hid hd
    simp only [hD]
    clear hd hb1 HF HN hD
    go_wp2_with fail
    refine (next_any 9 D v zs w1 HDk.out (by omega)).mono ?_
    rintro e w2 ⟨r, rfl, hr0, hr1, hd2, hg2⟩
    obtain ⟨n, hn⟩ : ∃ n : Nat, 1 + r = (n : Int) := ⟨(1 + r).toNat, by omega⟩
    have hn6 : 1 ≤ n ∧ n ≤ 9 := by omega
    have hw1 : IntKind.i64.wrap (1 + r) = (n : Int) := by rw [← hn]; exact IntWalk.i64_in _ (by omega)
    have H2 := Lib.hid (And.intro hd2 (And.intro (grown_to hg2 (Nat.le_refl _) (Nat.le_of_lt HDk.out.lt)) hd2.lt))
    clear hd2 hg2 hn hr0 hr1
    go_wp2_with fail
    refine (some_any D n v zs w2 H2.out.1 (by omega)).mono ?_
    rintro e w3 ⟨x1, l1, m1, rfl, hf, ho1, hd3, hg3⟩
    obtain ⟨A1, c1, rfl, _⟩ := RowIn.own ho1
    have H3 := Lib.hid (And.intro (And.intro ho1 (fun k hk => (ho1.lt k hk).2)) (And.intro hd3 (H2.out.2.1.trans (grown_to hg3 (Nat.le_refl _) (Nat.le_of_lt H2.out.2.2)))))
    have HF1 := Lib.hid hf
    have hlt3 := hd3.lt
    have hsz3 := hg3.size
    clear hf ho1 hd3 hg3
    go_wp2_with fail
    refine (some_any D n v zs w3 H3.out.2.1 (by omega)).mono ?_
    rintro e w4 ⟨x2, l2, m2, rfl, hf, ho2, hd4, hg4⟩
    obtain ⟨A2, c2, rfl, _⟩ := RowIn.own ho2
    have hD2 := H2.out.2.2
    have H4 := Lib.hid (And.intro (And.intro ho2 (fun k hk => (ho2.lt k hk).2)) (And.intro (own_grown H3.out.1.1 hg4 hD2) (And.intro hd4 (H3.out.2.2.trans (grown_to hg4 (Nat.le_refl _) (Nat.le_of_lt hlt3))))))
    have HF2 := Lib.hid hf
    have hlt4 := hd4.lt
    have hsz4 := hg4.size
    clear hf ho2 hd4 hg4
    go_wp2_with fail
    refine (maps_any D n v zs w4 H4.out.2.2.1 (by omega)).mono ?_
    rintro e w5 ⟨y, us, ts, rfl, hk, hq⟩
    have hg5 := hq.2.2.1
    have H5 := Lib.hid (And.intro (And.intro hq.2.2.2 (And.intro (fun (k : Nat) (hk : y.ownBlock = some k) => own_block_lt hq.2.2.2.1 hk) (fun (z : Value) (hz : z ∈ us) (k : Nat) (hk : z.ownBlock = some k) => hq.2.2.2.blk hz hk))) (And.intro (own_grown H4.out.1.1 hg5 hlt3) (And.intro (own_grown H4.out.2.1 hg5 hD2) (And.intro hq.1 (H4.out.2.2.2.trans (grown_to hg5 (Nat.le_refl _) (Nat.le_of_lt hlt4)))))))
    have HTS := Lib.hid hk
    have hlt5 := hq.1.lt
    have hsz5 := hg5.size
    clear hk hq hg5
    have hbx1 : Bk ((w5.alloc (.cells #[.slice A1 l1.length c1, .int .i64 m1] 30)).alloc (.cells #[.slice A2 l2.length c2, .int .i64 m2] 30)) w5.heap.size 30 #[.slice A1 l1.length c1, .int .i64 m1] := bk_alloc (Bk.new _ _ _) _
    have hbx2 : Bk ((w5.alloc (.cells #[.slice A1 l1.length c1, .int .i64 m1] 30)).alloc (.cells #[.slice A2 l2.length c2, .int .i64 m2] 30)) (w5.heap.size + 1) 30 #[.slice A2 l2.length c2, .int .i64 m2] := bk_new' (by simp)
    have hal : Below w5.heap.size w5 ((w5.alloc (.cells #[.slice A1 l1.length c1, .int .i64 m1] 30)).alloc (.cells #[.slice A2 l2.length c2, .int .i64 m2] 30)) := ((Below.refl _ _).alloc (Nat.le_refl _) _).alloc (by simp) _
    have hszW : ((w5.alloc (.cells #[.slice A1 l1.length c1, .int .i64 m1] 30)).alloc (.cells #[.slice A2 l2.length c2, .int .i64 m2] 30)).heap.size = w5.heap.size + 1 + 1 := by simp
    have HX := Lib.hid (And.intro hbx1 (And.intro hbx2 hal))
    clear hbx1 hbx2 hal
    go_wp2
    generalize ((w5.alloc (.cells #[.slice A1 l1.length c1, .int .i64 m1] 30)).alloc (.cells #[.slice A2 l2.length c2, .int .i64 m2] 30)) = W at *
    have hDW : D < W.heap.size := by omega
    go_loopw [16, 17] (fun x i wr => ∃ (k : Nat) (q : List Int), k ≤ n ∧ i = .int .i64 k ∧ Hid ((q.length = k ∧ ∀ c ∈ q, 0 ≤ c ∧ c ≤ 19) ∧ Cn W D v zs 3 1 x q.length (q.map (Value.int .i64)) wr)) (fun _ i _ => n - (intOf i).toNat)
    case atStart => exact ⟨0, [], by omega, rfl, Lib.hid ⟨⟨rfl, fun c hc => by simp at hc⟩, Cn.start (H5.out.2.2.2.1.below HX.out.2.2) hDW _ _⟩⟩
    case round =>
      obtain ⟨k, q, hk, rfl, HK⟩ := hrel
      by_cases hlt : k < n
      · have hlt' : (k : Int) < n := by omega
        have hql := HK.out.1.1
        go_wp2_with fail
        refine (next_any 20 D v zs _ HK.out.2.1 (by omega)).mono ?_
        rintro e w6 ⟨r, rfl, hr0, hr1, hd6, hg6⟩
        have HC := Lib.hid (HK.out.2.next hd6 hg6)
        have hr : 0 ≤ r ∧ r ≤ 19 := by omega
        clear hd6 hg6 hr0 hr1
        have HNa := Lib.hid (show ∀ i u, ([Value.int .i64 r])[i]? = some u → (w6.alloc (.cells #[.int .i64 r] 3)).cell? ((⟨w6.heap.size, 0, none⟩ : Addr).add i) = some u from World.news_of_block (cs := #[.int .i64 r]) (heap_alloc_new w6 _))
        have HBa := Lib.hid (show W.heap.size ≤ (w6.alloc (.cells #[.int .i64 r] 3)).heap.size by have := HC.out.size; simp; omega)
        go_wp2_with (at_builtin; refine wpList_append_own_at _ rfl (.tmp 42) (.tmp 45) 22 rfl W.heap.size 3 iI _ 1 8 Try.underlying22 HII.out.1 HII.out.2.1 HII.out.2.2.1 HII.out.2.2.2 rfl (by decide) u16 q.length (q.map (Value.int .i64)) rfl (HC.out.alloc _).2.2.2 ⟨w6.heap.size, 0, none⟩ 1 1 [Value.int .i64 r] rfl rfl HNa.out (by intro u hu; simp at hu; subst hu; rfl) (by unfold maxLen; omega) (by omega) HBa.out ?_; intro v' w' hown hgr _ _; have HCa := Lib.hid ((HC.out.alloc _).app hown hgr); clear hown hgr)
        go_roundw
        case rel => exact ⟨k + 1, q ++ [r], by omega, by first | rfl | go_num, Lib.hid ⟨⟨by simp; omega, fun c hc => by
          rcases List.mem_append.1 hc with h | h
          · exact HK.out.1.2 c h
          · obtain rfl : c = r := by simpa using h
            exact hr⟩, by simpa using HCa.out⟩⟩
        case measure => simp [intOf]; omega
      · have hlt' : ¬ (k : Int) < n := by omega
        have hkn : k = n := by omega
        go_wp2_with fail
        refine (maps_any D 4 v zs wr HK.out.2.1 (by omega)).mono ?_
        rintro e w9 ⟨yp, up, ps, rfl, hk, hq⟩
        have hg6 := HK.out.2.2.2.1
        have hg9 := hq.2.2.1
        have hcn := HK.out.2.2.2.2
        have hszr := hg6.size
        have hltr := HK.out.2.1.lt
        have hr1 := own_grown (own_grown (own_below H5.out.2.2.1 HX.out.2.2) hg6 (by omega)) hg9 (by omega)
        have hr2 := own_grown (own_grown (own_below H5.out.2.1 HX.out.2.2) hg6 (by omega)) hg9 (by omega)
        have hr3 := ((H5.out.1.1.below HX.out.2.2).grown hg6 hlt4).grown hg9 hlt4
        have hr4 := own_grown hcn hg9 hDW
        have hbk1 := bk_grown (bk_grown HX.out.1 hg6 (fun e => by injection e with e; omega)) hg9 (fun e => by injection e with e; omega)
        have hbk2 := bk_grown (bk_grown HX.out.2.1 hg6 (fun e => by injection e with e; omega)) hg9 (fun e => by injection e with e; omega)
        have hcl := hq.2.2.2
        -- the ranges of all rows
        have HR := Lib.hid (And.intro (And.intro hr1 (fun k (hk : Value.ownBlock (.slice A1 l1.length c1) = some k) => And.intro (H3.out.1.1.lt k hk).1 (H3.out.1.2 k hk))) (And.intro (And.intro hr2 (fun k (hk : Value.ownBlock (.slice A2 l2.length c2) = some k) => And.intro (H4.out.1.1.lt k hk).1 (H4.out.1.2 k hk))) (And.intro (And.intro hr3 H5.out.1.2) (And.intro (And.intro hr4 (fun k (hk : u16.ownBlock = some k) => And.intro (hcn.lt k hk).1 (hcn.lt k hk).2)) (And.intro hcl (And.intro hbk1 hbk2))))))
        have hG : Below D w w9 := (((HD.out ▸ HB1.out : Below D w w1).trans H5.out.2.2.2.2).trans (HX.out.2.2.mono (by omega))).trans ((grown_to hg6 (Nat.le_refl _) (by omega)).trans (grown_to hg9 (Nat.le_refl _) (by omega)))
        have HG := Lib.hid hG
        have HPS := Lib.hid hk
        have HQl := Lib.hid (And.intro (HK.out.1.1.trans hkn) HK.out.1.2)
        have hsz9 := hg9.size
        have hD5 := HD.out
        clear hk hq hg6 hg9 hcn hr1 hr2 hr3 hr4 hbk1 hbk2 hcl hG H2 H3 H4 H5 HX HDk HK HB1
        go_wp2_with fail
        refine (gmod_any what 8 HA.out.1 (by omega) w9).mono ?_
        rintro e w10 ⟨rfl, rfl⟩
        obtain ⟨s, hs⟩ : ∃ s, what % 8 = s := ⟨_, rfl⟩
        have hs8 : 0 ≤ s ∧ s < 8 := by omega
        rw [hs]
        clear hs
        have hca : IntKind.i64.wrap a = a := IntWalk.i64_in _ (by have := HA.out.2.2.1; omega)
        have hcb : IntKind.i64.wrap b = b := IntWalk.i64_in _ (by have := HA.out.2.2.2; omega)
        have HLn := Lib.hid (show l1.length ≤ maxLen ∧ l2.length ≤ maxLen ∧ q.length ≤ maxLen ∧ ts.length ≤ maxLen ∧ (∀ r ∈ ts, r.length ≤ maxLen) ∧ ps.length ≤ maxLen ∧ (∀ r ∈ ps, r.length ≤ maxLen) from by
          refine ⟨?_, ?_, ?_, ?_, HTS.out.rows, ?_, HPS.out.rows⟩
          · have := HF1.out.len; unfold maxLen; omega
          · have := HF2.out.len; unfold maxLen; omega
          · have := HQl.out.1; unfold maxLen; omega
          · rw [HTS.out.len]; unfold maxLen; omega
          · rw [HPS.out.len]; unfold maxLen; omega)
        have HF0 := Lib.hid (show Fin w5.heap.size (.slice A1 l1.length c1) l1 m1 (.slice A2 l2.length c2) l2 m2 u16 q y ts yp ps w9 from ⟨HR.out.2.2.2.2.2, RowIn.own HR.out.1.1, RowIn.own HR.out.2.1.1, RowIn.own HR.out.2.2.2.1.1, HR.out.2.2.1.1.lstsS, HR.out.2.2.2.2.1.lstsS⟩)
        have hszr' : W.heap.size ≤ wr.heap.size := hszr
        have hsz9' : wr.heap.size ≤ w9.heap.size := hsz9
        -- the rows' ranges, as the steps below ask for them
        have R1 := HR.out.1
        have R2 := HR.out.2.1
        have R3 := HR.out.2.2.1
        have R4 := HR.out.2.2.2.1
        have R5 := HR.out.2.2.2.2.1
        have RY : ∀ k, y.ownBlock = some k → w4.heap.size ≤ k ∧ k < w5.heap.size := fun k hk => ⟨(R3.1.1.lt k hk).1, R3.2.1 k hk⟩
        have RU : ∀ z ∈ us, ∀ k, z.ownBlock = some k → w4.heap.size ≤ k ∧ k < w5.heap.size := fun z hz k hk => by
          refine ⟨?_, R3.2.2 z hz k hk⟩
          obtain ⟨i, hi, rfl⟩ := List.getElem_of_mem hz
          exact ((R3.1.2.1 i _ (List.getElem?_eq_getElem hi)).lt k hk).1
        have RP : ∀ k, yp.ownBlock = some k → wr.heap.size ≤ k := fun k hk => (R5.1.lt k hk).1
        have RQ : ∀ z ∈ up, ∀ k, z.ownBlock = some k → wr.heap.size ≤ k := fun z hz k hk => by
          obtain ⟨i, hi, rfl⟩ := List.getElem_of_mem hz
          exact ((R5.2.1 i _ (List.getElem?_eq_getElem hi)).lt k hk).1
        have HRn := Lib.hid (And.intro R1 (And.intro R2 (And.intro (And.intro R3 (And.intro RY RU)) (And.intro R4 (And.intro R5 (And.intro RP RQ))))))
        clear R1 R2 R3 R4 R5 RY RU RP RQ HR
        have hs' : s = 0 ∨ s = 1 ∨ s = 2 ∨ s = 3 ∨ s = 4 ∨ s = 5 ∨ s = 6 ∨ s = 7 := by omega
        clear hs8
        rcases hs' with rfl | rfl | rfl | rfl | rfl | rfl | rfl | rfl
        · have hl1 := HF1.out.len
          have HNa := Lib.hid (show ∀ i u, (prCells (bY, 1))[i]? = some u → (w9.alloc (.cells #[.int .i64 bY, .int .i64 1] 36)).cell? ((⟨w9.heap.size, 0, none⟩ : Addr).add i) = some u from World.news_of_block (cs := #[.int .i64 bY, .int .i64 1]) (heap_alloc_new w9 _))
          have HBa := Lib.hid (show w2.heap.size ≤ (w9.alloc (.cells #[.int .i64 bY, .int .i64 1] 36)).heap.size by simp; omega)
          have HOa := Lib.hid (own_below HRn.out.1.1 ((Below.refl _ _).alloc (Nat.le_refl _) (.cells #[.int .i64 bY, .int .i64 1] 36)))
          have k0 : w9.cell? ⟨w5.heap.size, 0, none⟩ = some (.slice A1 l1.length c1) := HF0.out.1.1.cell 0
          go_wp2_with (at_builtin; refine wpList_append_own_at _ rfl (.tmp 54) (.tmp 57) 28 rfl w2.heap.size 36 iT _ 2 16 Try.underlying28 HIT.out.1 HIT.out.2.1 HIT.out.2.2.1 HIT.out.2.2.2 rfl (by decide) (.slice A1 l1.length c1) l1.length (l1.flatMap prCells) rfl HOa.out ⟨w9.heap.size, 0, none⟩ 1 1 (prCells (bY, 1)) rfl rfl HNa.out (by intro u hu; simp [prCells] at hu; rcases hu with rfl | rfl <;> rfl) (by unfold maxLen; omega) (by omega) HBa.out ?_; intro v' w' hown hgr _ hvo; obtain ⟨A9, c9, hv9, _⟩ := RowIn.own hown; subst hv9; have HV := Lib.hid (And.intro hown (And.intro hgr hvo)); have hm1 : Mut w2.heap.size w3.heap.size w9 w' := (Mut.ofBelow ((Below.refl _ _).alloc (Nat.le_refl _) _) _ _).trans (Mut.ofGrown hgr (fun k hk => HRn.out.1.2 k hk)); have hq0 : Bk w' w5.heap.size 30 #[(.slice A1 l1.length c1), .int .i64 m1] := hm1.bk HF0.out.1.1 (by omega); have e0 : w'.cell? ⟨w5.heap.size, 0, none⟩ = some (.slice A1 l1.length c1) := hq0.cell 0; have e1 : w'.frozen? ⟨w5.heap.size, 0, none⟩ = false := hq0.frozen 0; have hq1 : Bk w' (w5.heap.size + 1) 30 #[(.slice A2 l2.length c2), .int .i64 m2] := hm1.bk HF0.out.1.2 (by omega); have hs0 := hq0.set 0 (.slice A9 (l1.length + 1) c9); have hs1 := hq1.far (p := ⟨w5.heap.size, 0, none⟩) (by show w5.heap.size + 1 ≠ w5.heap.size; omega) (.slice A9 (l1.length + 1) c9); have j0 : (w'.setCell ⟨w5.heap.size, 0, none⟩ (.slice A9 (l1.length + 1) c9)).cell? ⟨w5.heap.size, 0, none⟩ = some (.slice A9 (l1.length + 1) c9) := hs0.cell 0; have j1 : (w'.setCell ⟨w5.heap.size, 0, none⟩ (.slice A9 (l1.length + 1) c9)).cell? ⟨w5.heap.size, 1, none⟩ = some (.int .i64 m1) := hs0.cell 1; have j2 : (w'.setCell ⟨w5.heap.size, 0, none⟩ (.slice A9 (l1.length + 1) c9)).cell? ⟨w5.heap.size + 1, 0, none⟩ = some (.slice A2 l2.length c2) := hs1.cell 0; have j3 : (w'.setCell ⟨w5.heap.size, 0, none⟩ (.slice A9 (l1.length + 1) c9)).cell? ⟨w5.heap.size + 1, 1, none⟩ = some (.int .i64 m2) := hs1.cell 1; have HM1 := Lib.hid (And.intro hm1 hq0); clear hown hgr hvo hm1 hq0 hq1 hs0 hs1)
          clear e0 e1 k0 j0 j1 j2 j3
          have hm1 := HM1.out.1
          have hm2 : Mut w5.heap.size (w5.heap.size + 1) w' (w'.setCell ⟨w5.heap.size, 0, none⟩ (.slice A9 (l1.length + 1) c9)) := Mut.set ⟨Nat.le_refl _, by omega⟩ _ _
          have hm9 : w9.heap.size ≤ w'.heap.size := hm1.size
          have ho9 : (w'.setCell ⟨w5.heap.size, 0, none⟩ (.slice A9 (l1.length + 1) c9)).ownsRow w2.heap.size 36 2 (.slice A9 (l1.length + 1) c9) (l1 ++ [(bY, 1)]).length ((l1 ++ [(bY, 1)]).flatMap prCells) := by
            have h := hm2.own HV.out.1 (fun k hk => by
              rcases HV.out.2.2 with e | e
              · have := HRn.out.1.2 k (e ▸ hk); omega
              · rw [e] at hk; injection hk with hk; simp at hk; omega)
            rw [List.flatMap_append, List.length_append]
            exact h
          generalize hU : w'.setCell ⟨w5.heap.size, 0, none⟩ (.slice A9 (l1.length + 1) c9) = U at *
          have HFi := Lib.hid (show Fin w5.heap.size (.slice A9 (l1.length + 1) c9) (l1 ++ [(bY, 1)]) m1 (.slice A2 l2.length c2) l2 m2 u16 q y ts yp ps U from ⟨⟨by rw [← hU]; exact HM1.out.2.set 0 _, hm2.bk (hm1.bk HF0.out.1.2 (by omega)) (by omega)⟩, RowIn.own ho9, RowIn.own (hm2.own (hm1.own HRn.out.2.1.1 (fun k hk => by have := HRn.out.2.1.2 k hk; omega)) (fun k hk => by have := HRn.out.2.1.2 k hk; omega)), RowIn.own (hm2.own (hm1.own HRn.out.2.2.2.1.1 (fun k hk => by have := HRn.out.2.2.2.1.2 k hk; omega)) (fun k hk => by have := HRn.out.2.2.2.1.2 k hk; omega)), (hm2.mps (hm1.mps HRn.out.2.2.1.1.1 (fun k hk => by have := HRn.out.2.2.1.2.1 k hk; omega) (fun z hz k hk => by have := HRn.out.2.2.1.2.2 z hz k hk; omega)) (fun k hk => by have := HRn.out.2.2.1.2.1 k hk; omega) (fun z hz k hk => by have := HRn.out.2.2.1.2.2 z hz k hk; omega)).lstsS, (hm2.mps (hm1.mps HRn.out.2.2.2.2.1 (fun k hk => by have := HRn.out.2.2.2.2.2.1 k hk; omega) (fun z hz k hk => by have := HRn.out.2.2.2.2.2.2 z hz k hk; omega)) (fun k hk => by have := HRn.out.2.2.2.2.2.1 k hk; omega) (fun z hz k hk => by have := HRn.out.2.2.2.2.2.2 z hz k hk; omega)).lstsS⟩)
          have HBe := Lib.hid (show Below D w U from (HG.out.trans ((hm1.below D (by omega) (by omega)).mono (Nat.le_refl _))).trans ((hm2.below D (by omega) (by omega)).mono (Nat.le_refl _)))
          have k0 : World.cell? U ⟨w5.heap.size, 0, none⟩ = some (.slice A9 (l1.length + 1) c9) := HFi.out.1.1.cell 0
          have k1 : World.cell? U ⟨w5.heap.size, 1, none⟩ = some (.int .i64 m1) := HFi.out.1.1.cell 1
          have k2 : World.cell? U ⟨w5.heap.size + 1, 0, none⟩ = some (.slice A2 l2.length c2) := HFi.out.1.2.cell 0
          have k3 : World.cell? U ⟨w5.heap.size + 1, 1, none⟩ = some (.int .i64 m2) := HFi.out.1.2.cell 1
          refine (agree_any (l1 ++ [(bY, 1)]) m1 (.slice A9 (l1.length + 1) c9) l2 m2 (.slice A2 l2.length c2) q u16 ts y ps yp a b U HFi.out.2.1 (by simp; unfold maxLen; omega) HFi.out.2.2.1 HLn.out.2.1 HFi.out.2.2.2.1 HLn.out.2.2.1 HFi.out.2.2.2.2.1 HLn.out.2.2.2.1 HLn.out.2.2.2.2.1 HFi.out.2.2.2.2.2 HLn.out.2.2.2.2.2.1 HLn.out.2.2.2.2.2.2).mono ?_
          rintro e w20 ⟨rfl, hbn⟩
          have HB20 := Lib.hid (HBe.out.trans (hbn.mono (by have := HBe.out.size; omega)))
          clear hbn k0 k1 k2 k3
          go_wp2_with fail
          refine (awake_any _).mono ?_
          rintro e w21 ⟨rfl, hbn⟩
          have HB21 := Lib.hid (HB20.out.trans (hbn.mono (by have := HB20.out.size; omega)))
          clear hbn
          go_wp2
          go_ret
          exact ⟨rfl, by rw [hD5]; exact HB21.out⟩
        · have hql := HQl.out.1
          obtain ⟨g, cap, hu16, q0, qs, hqq, hgl, hcell, hfro⟩ : ∃ g cap, u16 = .slice (some ⟨g, 0, none⟩) q.length cap ∧ ∃ q0 qs, q = q0 :: qs ∧ (W.heap.size ≤ g ∧ g < wr.heap.size) ∧ w9.cell? ⟨g, 0, none⟩ = some (.int .i64 q0) ∧ w9.frozen? ⟨g, 0, none⟩ = false := by
            have h := HRn.out.2.2.2.1.1
            rcases h.2 with ⟨_, h0⟩ | ⟨g, cap, cur, rfl, hb, hg, hc, hm, hsz, htk⟩
            · omega
            · cases q with
              | nil => simp at hql; omega
              | cons q0 qs =>
                have hx := h.cells (g := g) rfl 0 (.int .i64 q0) (by simp)
                have hadd : (⟨g, 0, none⟩ : Addr).add 0 = ⟨g, 0, none⟩ := rfl
                rw [hadd] at hx
                exact ⟨g, cap, rfl, q0, qs, rfl, HRn.out.2.2.2.1.2 g rfl, hx, by simp [World.frozen?, hg]⟩
          subst hqq
          have ho4 := HRn.out.2.2.2.1.1
          rw [hu16] at ho4
          have hm1 : Mut W.heap.size wr.heap.size w9 (w9.setCell ⟨g, 0, none⟩ (.int .i64 bY)) := Mut.set hgl _ _
          have hns : NumsIn (w9.setCell ⟨g, 0, none⟩ (.int .i64 bY)) (.slice (some ⟨g, 0, none⟩) (qs.length + 1) cap) (bY :: qs) := by
            have h := own_set0 (z := .int .i64 bY) ho4
            exact RowIn.own h
          have HU16 := Lib.hid (And.intro hm1 hns)
          obtain ⟨m0, hm0⟩ : ∃ m0, (q0 :: qs).length = m0 := ⟨_, rfl⟩
          have hm00 : qs.length + 1 = m0 := hm0
          rw [hm0] at hu16 hql
          rw [hm00] at HU16
          have hq0' : (0 : Int) < (m0 : Int) := by omega
          have HM0 := Lib.hid hm00
          subst hu16
          clear ho4 hm1 hns hm0 hm00 hql
          have hm1 := HU16.out.1
          have HFi := Lib.hid (show Fin w5.heap.size (.slice A1 l1.length c1) l1 m1 (.slice A2 l2.length c2) l2 m2 (.slice (some ⟨g, 0, none⟩) m0 cap) (bY :: qs) y ts yp ps (w9.setCell ⟨g, 0, none⟩ (.int .i64 bY)) from ⟨⟨hm1.bk HF0.out.1.1 (by omega), hm1.bk HF0.out.1.2 (by omega)⟩, RowIn.own (hm1.own HRn.out.1.1 (fun k hk => by have := HRn.out.1.2 k hk; omega)), RowIn.own (hm1.own HRn.out.2.1.1 (fun k hk => by have := HRn.out.2.1.2 k hk; omega)), HU16.out.2, (hm1.mps HRn.out.2.2.1.1.1 (fun k hk => by have := HRn.out.2.2.1.2.1 k hk; omega) (fun z hz k hk => by have := HRn.out.2.2.1.2.2 z hz k hk; omega)).lstsS, (hm1.mps HRn.out.2.2.2.2.1 (fun k hk => by have := HRn.out.2.2.2.2.2.1 k hk; omega) (fun z hz k hk => by have := HRn.out.2.2.2.2.2.2 z hz k hk; omega)).lstsS⟩)
          have HBe := Lib.hid (show Below D w (w9.setCell ⟨g, 0, none⟩ (.int .i64 bY)) from HG.out.trans ((hm1.below D (by omega) (by omega)).mono (Nat.le_refl _)))
          have k0 : World.cell? (w9.setCell ⟨g, 0, none⟩ (.int .i64 bY)) ⟨w5.heap.size, 0, none⟩ = some (.slice A1 l1.length c1) := HFi.out.1.1.cell 0
          have k1 : World.cell? (w9.setCell ⟨g, 0, none⟩ (.int .i64 bY)) ⟨w5.heap.size, 1, none⟩ = some (.int .i64 m1) := HFi.out.1.1.cell 1
          have k2 : World.cell? (w9.setCell ⟨g, 0, none⟩ (.int .i64 bY)) ⟨w5.heap.size + 1, 0, none⟩ = some (.slice A2 l2.length c2) := HFi.out.1.2.cell 0
          have k3 : World.cell? (w9.setCell ⟨g, 0, none⟩ (.int .i64 bY)) ⟨w5.heap.size + 1, 1, none⟩ = some (.int .i64 m2) := HFi.out.1.2.cell 1
          go_wp2_with fail
          refine (agree_any l1 m1 (.slice A1 l1.length c1) l2 m2 (.slice A2 l2.length c2) (bY :: qs) (.slice (some ⟨g, 0, none⟩) m0 cap) ts y ps yp a b (w9.setCell ⟨g, 0, none⟩ (.int .i64 bY)) HFi.out.2.1 HLn.out.1 HFi.out.2.2.1 HLn.out.2.1 HFi.out.2.2.2.1 HLn.out.2.2.1 HFi.out.2.2.2.2.1 HLn.out.2.2.2.1 HLn.out.2.2.2.2.1 HFi.out.2.2.2.2.2 HLn.out.2.2.2.2.2.1 HLn.out.2.2.2.2.2.2).mono ?_
          rintro e w20 ⟨rfl, hbn⟩
          have HB20 := Lib.hid (HBe.out.trans (hbn.mono (by have := HBe.out.size; omega)))
          clear hbn k0 k1 k2 k3
          go_wp2_with fail
          refine (awake_any _).mono ?_
          rintro e w21 ⟨rfl, hbn⟩
          have HB21 := Lib.hid (HB20.out.trans (hbn.mono (by have := HB20.out.size; omega)))
          clear hbn
          go_wp2
          go_ret
          exact ⟨rfl, by rw [hD5]; exact HB21.out⟩
        · have htl := HTS.out.len
          obtain ⟨g, cap, hyy, hcap, hgl⟩ : ∃ g cap, y = .slice (some ⟨g, 0, none⟩) ts.length cap ∧ ts.length ≤ cap ∧ (w4.heap.size ≤ g ∧ g < w5.heap.size) := by
            have h := HRn.out.2.2.1.1.1.1
            rcases h.2 with ⟨_, h0⟩ | ⟨g, cap, cur, rfl, hb, hg, hc, hm, hsz, htk⟩
            · omega
            · exact ⟨g, cap, rfl, hc, HRn.out.2.2.1.2.1 g rfl⟩
          subst hyy
          rw [htl] at hcap
          obtain ⟨n', rfl⟩ : ∃ n', n = n' + 1 := ⟨n - 1, by omega⟩
          have hLs := HF0.out.2.2.2.2.1
          have hlst : LstsS w9 (.slice (some ⟨g, 0, none⟩) n' cap) (ts.take n') := by
            obtain ⟨A, c, e, ho⟩ := hLs
            injection e with e1 e2 e3
            subst e1 e3
            have hl : (ts.take n').length = n' := by rw [List.length_take, htl]; omega
            refine ⟨some ⟨g, 0, none⟩, cap, by rw [hl], fun i hi => ?_⟩
            have hi' : i < n' := by simp at hi; omega
            obtain ⟨b, off, u, eA, hlt, hc, hq, hsn⟩ := ho i (by omega)
            refine ⟨b, off, u, eA, hlt, hc, ?_, hsn⟩
            have e9 : (ts.take n').getD i [] = ts.getD i [] := by simp [List.getD, List.getElem?_take, hi']
            rw [e9]
            exact hq
          have HLst := Lib.hid hlst
          have hrws : ∀ r ∈ ts.take n', r.length ≤ maxLen := fun r hr => HLn.out.2.2.2.2.1 r (List.mem_of_mem_take hr)
          have HRws := Lib.hid hrws
          have hsb : IntKind.i64.wrap (((n' : Int) + 1) - 1) = n' := by
            have e : ((n' : Int) + 1) - 1 = n' := by omega
            rw [e]
            exact IntWalk.i64_in _ (by omega)
          have hcap' : (0 : Int) ≤ n' ∧ (n' : Int) ≤ cap := by omega
          rw [htl]
          clear hLs hlst hrws
          have HFi := Lib.hid (show Fin w5.heap.size (.slice A1 l1.length c1) l1 m1 (.slice A2 l2.length c2) l2 m2 u16 q (.slice (some ⟨g, 0, none⟩) n' cap) (ts.take n') yp ps w9 from ⟨HF0.out.1, HF0.out.2.1, HF0.out.2.2.1, HF0.out.2.2.2.1, HLst.out, HF0.out.2.2.2.2.2⟩)
          have HBe := Lib.hid (show Below D w w9 from HG.out)
          have k0 : World.cell? w9 ⟨w5.heap.size, 0, none⟩ = some (.slice A1 l1.length c1) := HFi.out.1.1.cell 0
          have k1 : World.cell? w9 ⟨w5.heap.size, 1, none⟩ = some (.int .i64 m1) := HFi.out.1.1.cell 1
          have k2 : World.cell? w9 ⟨w5.heap.size + 1, 0, none⟩ = some (.slice A2 l2.length c2) := HFi.out.1.2.cell 0
          have k3 : World.cell? w9 ⟨w5.heap.size + 1, 1, none⟩ = some (.int .i64 m2) := HFi.out.1.2.cell 1
          go_wp2_with fail
          refine (agree_any l1 m1 (.slice A1 l1.length c1) l2 m2 (.slice A2 l2.length c2) q u16 (ts.take n') (.slice (some ⟨g, 0, none⟩) n' cap) ps yp a b w9 HFi.out.2.1 HLn.out.1 HFi.out.2.2.1 HLn.out.2.1 HFi.out.2.2.2.1 HLn.out.2.2.1 HFi.out.2.2.2.2.1 (by simp; unfold maxLen; omega) HRws.out HFi.out.2.2.2.2.2 HLn.out.2.2.2.2.2.1 HLn.out.2.2.2.2.2.2).mono ?_
          rintro e w20 ⟨rfl, hbn⟩
          have HB20 := Lib.hid (HBe.out.trans (hbn.mono (by have := HBe.out.size; omega)))
          clear hbn k0 k1 k2 k3
          go_wp2_with fail
          refine (awake_any _).mono ?_
          rintro e w21 ⟨rfl, hbn⟩
          have HB21 := Lib.hid (HB20.out.trans (hbn.mono (by have := HB20.out.size; omega)))
          clear hbn
          go_wp2
          go_ret
          exact ⟨rfl, by rw [hD5]; exact HB21.out⟩
        · have htl := HTS.out.len
          obtain ⟨g, cap, hyy, hcap, hgl⟩ : ∃ g cap, y = .slice (some ⟨g, 0, none⟩) ts.length cap ∧ ts.length ≤ cap ∧ (w4.heap.size ≤ g ∧ g < w5.heap.size) := by
            have h := HRn.out.2.2.1.1.1.1
            rcases h.2 with ⟨_, h0⟩ | ⟨g, cap, cur, rfl, hb, hg, hc, hm, hsz, htk⟩
            · omega
            · exact ⟨g, cap, rfl, hc, HRn.out.2.2.1.2.1 g rfl⟩
          obtain ⟨q0, tr, htt⟩ : ∃ q0 tr, ts = q0 :: tr := by
            cases ts with
            | nil => simp at htl <;> omega
            | cons q0 tr => exact ⟨q0, tr, rfl⟩
          subst htt
          obtain ⟨x0, ur, huu⟩ : ∃ x0 ur, us = x0 :: ur := by
            have h := HRn.out.2.2.1.1.1.len
            cases us with
            | nil => simp at h
            | cons x0 ur => exact ⟨x0, ur, rfl⟩
          subst huu
          have hq3 := (HTS.out.mem q0 (by simp)).1
          have hM := HRn.out.2.2.1.1.1
          rw [hyy] at hM
          have hc0 : w9.cell? ⟨g, 0, none⟩ = some x0 := by
            have h := hM.1.cells (g := g) rfl 0 x0 (by simp)
            exact h
          have hf0 : w9.frozen? ⟨g, 0, none⟩ = false := by
            rcases hM.1.2 with ⟨h0, _⟩ | ⟨g', cap', cur, h1, hb, hg, _⟩
            · injection h0 with h0; exact absurd h0 (by simp)
            · injection h1 with h1 _ _
              injection h1 with h1
              injection h1 with h1 _ _
              subst h1
              simp [World.frozen?, hg]
          have hx0 := hM.2.1 0 x0 (by simp)
          simp only [List.getD_cons_zero] at hx0
          obtain ⟨A0, d0, hxs, _⟩ := RowIn.own hx0
          have hbl := (Below.refl w9.heap.size w9).alloc (Nat.le_refl _) (.cells #[.int .i64 bY] 3)
          have HMp := Lib.hid (hM.below hbl)
          have HOa := Lib.hid (own_below hx0 hbl)
          have HRx := Lib.hid (show ∀ k, x0.ownBlock = some k → w4.heap.size ≤ k ∧ k < w5.heap.size from (fun k hk => HRn.out.2.2.1.2.2 x0 (by simp) k hk))
          have hlen1 : (q0 :: tr).length = tr.length + 1 := rfl
          have HAp := Lib.hid (show Ap x0 y from (HRn.out.2.2.1.1.1.2.2.2 x0 (by simp)).symm)
          rw [hlen1] at hyy hcap
          have HNa := Lib.hid (show ∀ i u, ([Value.int .i64 bY])[i]? = some u → (w9.alloc (.cells #[.int .i64 bY] 3)).cell? ((⟨w9.heap.size, 0, none⟩ : Addr).add i) = some u from World.news_of_block (cs := #[.int .i64 bY]) (heap_alloc_new w9 _))
          have HBa := Lib.hid (show w4.heap.size ≤ (w9.alloc (.cells #[.int .i64 bY] 3)).heap.size by simp; omega)
          subst hyy
          subst hxs
          have hgp : (0 : Int) < (tr.length : Int) + 1 := by omega
          clear hM hx0 hbl
          go_wp2_with (at_builtin; refine wpList_append_own_at _ rfl (.tmp 77) (.tmp 79) 22 rfl w4.heap.size 3 iI _ 1 8 Try.underlying22 HII.out.1 HII.out.2.1 HII.out.2.2.1 HII.out.2.2.2 rfl (by decide) (.slice A0 q0.length d0) q0.length (q0.map (Value.int .i64)) rfl HOa.out ⟨w9.heap.size, 0, none⟩ 1 1 [Value.int .i64 bY] rfl rfl HNa.out (by intro u hu; simp at hu; subst hu; rfl) (by unfold maxLen; omega) (by omega) HBa.out ?_; intro v' w' hown hgr _ hvo; obtain ⟨A9, c9, hv9, _⟩ := RowIn.own hown; subst hv9; have hup := Mps.upd HMp.out hown hgr hvo; have hm1 : Mut w4.heap.size w5.heap.size w9 w' := (Mut.ofBelow ((Below.refl _ _).alloc (Nat.le_refl _) _) _ _).trans (Mut.ofGrown hgr HRx.out); have hcg : w'.heap[g]? = w9.heap[g]? := (hgr.block g (by have := hgl; simp; omega) (fun e => HAp.out g e.symm rfl)).trans (Below.heap_alloc w9 _ g (by omega)); have e0 : w'.cell? ⟨g, 0, none⟩ = some (.slice A0 q0.length d0) := (World.cell?_of_block (a := ⟨g, 0, none⟩) hcg).trans hc0; have e1 : w'.frozen? ⟨g, 0, none⟩ = false := (World.frozen?_of_block (a := ⟨g, 0, none⟩) hcg).trans hf0; have hm2' : Mut w4.heap.size w5.heap.size w9 (w'.setCell ⟨g, 0, none⟩ (.slice A9 (q0.length + 1) c9)) := hm1.trans (Mut.set hgl _ _); have hs0 := hm2'.bk HF0.out.1.1 (by omega); have hs1 := hm2'.bk HF0.out.1.2 (by omega); have j0 : (w'.setCell ⟨g, 0, none⟩ (.slice A9 (q0.length + 1) c9)).cell? ⟨w5.heap.size, 0, none⟩ = some (.slice A1 l1.length c1) := hs0.cell 0; have j1 : (w'.setCell ⟨g, 0, none⟩ (.slice A9 (q0.length + 1) c9)).cell? ⟨w5.heap.size, 1, none⟩ = some (.int .i64 m1) := hs0.cell 1; have j2 : (w'.setCell ⟨g, 0, none⟩ (.slice A9 (q0.length + 1) c9)).cell? ⟨w5.heap.size + 1, 0, none⟩ = some (.slice A2 l2.length c2) := hs1.cell 0; have j3 : (w'.setCell ⟨g, 0, none⟩ (.slice A9 (q0.length + 1) c9)).cell? ⟨w5.heap.size + 1, 1, none⟩ = some (.int .i64 m2) := hs1.cell 1; have HV := Lib.hid (And.intro hup hm1); clear hown hgr hvo hup hm1 hcg hm2' hs0 hs1)
          clear e0 e1 hc0 hf0 j0 j1 j2 j3
          have hm1 := HV.out.2
          have hm2 : Mut w4.heap.size w5.heap.size w' (w'.setCell ⟨g, 0, none⟩ (.slice A9 (q0.length + 1) c9)) := Mut.set hgl _ _
          have hm9 : w9.heap.size ≤ w'.heap.size := hm1.size
          have hlst := HV.out.1.lstsS
          generalize hU : w'.setCell ⟨g, 0, none⟩ (.slice A9 (q0.length + 1) c9) = U at *
          have HFi := Lib.hid (show Fin w5.heap.size (.slice A1 l1.length c1) l1 m1 (.slice A2 l2.length c2) l2 m2 u16 q (.slice (some ⟨g, 0, none⟩) (tr.length + 1) cap) ((q0 ++ [bY]) :: tr) yp ps U from ⟨⟨hm2.bk (hm1.bk HF0.out.1.1 (by omega)) (by omega), hm2.bk (hm1.bk HF0.out.1.2 (by omega)) (by omega)⟩, RowIn.own (hm2.own (hm1.own HRn.out.1.1 (fun k hk => by have := HRn.out.1.2 k hk; omega)) (fun k hk => by have := HRn.out.1.2 k hk; omega)), RowIn.own (hm2.own (hm1.own HRn.out.2.1.1 (fun k hk => by have := HRn.out.2.1.2 k hk; omega)) (fun k hk => by have := HRn.out.2.1.2 k hk; omega)), RowIn.own (hm2.own (hm1.own HRn.out.2.2.2.1.1 (fun k hk => by have := HRn.out.2.2.2.1.2 k hk; omega)) (fun k hk => by have := HRn.out.2.2.2.1.2 k hk; omega)), hlst, (hm2.mps (hm1.mps HRn.out.2.2.2.2.1 (fun k hk => by have := HRn.out.2.2.2.2.2.1 k hk; omega) (fun z hz k hk => by have := HRn.out.2.2.2.2.2.2 z hz k hk; omega)) (fun k hk => by have := HRn.out.2.2.2.2.2.1 k hk; omega) (fun z hz k hk => by have := HRn.out.2.2.2.2.2.2 z hz k hk; omega)).lstsS⟩)
          have HBe := Lib.hid (show Below D w U from (HG.out.trans ((hm1.below D (by omega) (by omega)).mono (Nat.le_refl _))).trans ((hm2.below D (by omega) (by omega)).mono (Nat.le_refl _)))
          have k0 : World.cell? U ⟨w5.heap.size, 0, none⟩ = some (.slice A1 l1.length c1) := HFi.out.1.1.cell 0
          have k1 : World.cell? U ⟨w5.heap.size, 1, none⟩ = some (.int .i64 m1) := HFi.out.1.1.cell 1
          have k2 : World.cell? U ⟨w5.heap.size + 1, 0, none⟩ = some (.slice A2 l2.length c2) := HFi.out.1.2.cell 0
          have k3 : World.cell? U ⟨w5.heap.size + 1, 1, none⟩ = some (.int .i64 m2) := HFi.out.1.2.cell 1
          refine (agree_any l1 m1 (.slice A1 l1.length c1) l2 m2 (.slice A2 l2.length c2) q u16 ((q0 ++ [bY]) :: tr) (.slice (some ⟨g, 0, none⟩) (tr.length + 1) cap) ps yp a b U HFi.out.2.1 HLn.out.1 HFi.out.2.2.1 HLn.out.2.1 HFi.out.2.2.2.1 HLn.out.2.2.1 HFi.out.2.2.2.2.1 (by simp at htl ⊢; unfold maxLen; omega) (fun r hr => (List.mem_cons.1 hr).elim (fun h => by rw [h]; simp; unfold maxLen; omega) (fun h => HTS.out.rows r (by simp [h]))) HFi.out.2.2.2.2.2 HLn.out.2.2.2.2.2.1 HLn.out.2.2.2.2.2.2).mono ?_
          rintro e w20 ⟨rfl, hbn⟩
          have HB20 := Lib.hid (HBe.out.trans (hbn.mono (by have := HBe.out.size; omega)))
          clear hbn k0 k1 k2 k3
          go_wp2_with fail
          refine (awake_any _).mono ?_
          rintro e w21 ⟨rfl, hbn⟩
          have HB21 := Lib.hid (HB20.out.trans (hbn.mono (by have := HB20.out.size; omega)))
          clear hbn
          go_wp2
          go_ret
          exact ⟨rfl, by rw [hD5]; exact HB21.out⟩
        · have e0 : w9.cell? ⟨w5.heap.size + 1, 1, none⟩ = some (.int .i64 m2) := HF0.out.1.2.cell 1
          have e1 : w9.frozen? ⟨w5.heap.size + 1, 1, none⟩ = false := HF0.out.1.2.frozen 1
          have hm1 : Mut (w5.heap.size + 1) (w5.heap.size + 2) w9 (w9.setCell ⟨w5.heap.size + 1, 1, none⟩ (.int .i64 bY)) := Mut.set ⟨Nat.le_refl _, by omega⟩ _ _
          have HFi := Lib.hid (show Fin w5.heap.size (.slice A1 l1.length c1) l1 m1 (.slice A2 l2.length c2) l2 bY u16 q y ts yp ps (w9.setCell ⟨w5.heap.size + 1, 1, none⟩ (.int .i64 bY)) from ⟨⟨hm1.bk HF0.out.1.1 (by omega), by exact HF0.out.1.2.set 1 _⟩, RowIn.own (hm1.own HRn.out.1.1 (fun k hk => by have := HRn.out.1.2 k hk; omega)), RowIn.own (hm1.own HRn.out.2.1.1 (fun k hk => by have := HRn.out.2.1.2 k hk; omega)), RowIn.own (hm1.own HRn.out.2.2.2.1.1 (fun k hk => by have := HRn.out.2.2.2.1.2 k hk; omega)), (hm1.mps HRn.out.2.2.1.1.1 (fun k hk => by have := HRn.out.2.2.1.2.1 k hk; omega) (fun z hz k hk => by have := HRn.out.2.2.1.2.2 z hz k hk; omega)).lstsS, (hm1.mps HRn.out.2.2.2.2.1 (fun k hk => by have := HRn.out.2.2.2.2.2.1 k hk; omega) (fun z hz k hk => by have := HRn.out.2.2.2.2.2.2 z hz k hk; omega)).lstsS⟩)
          have HBe := Lib.hid (show Below D w (w9.setCell ⟨w5.heap.size + 1, 1, none⟩ (.int .i64 bY)) from HG.out.trans ((hm1.below D (by omega) (by omega)).mono (Nat.le_refl _)))
          have k0 : World.cell? (w9.setCell ⟨w5.heap.size + 1, 1, none⟩ (.int .i64 bY)) ⟨w5.heap.size, 0, none⟩ = some (.slice A1 l1.length c1) := HFi.out.1.1.cell 0
          have k1 : World.cell? (w9.setCell ⟨w5.heap.size + 1, 1, none⟩ (.int .i64 bY)) ⟨w5.heap.size, 1, none⟩ = some (.int .i64 m1) := HFi.out.1.1.cell 1
          have k2 : World.cell? (w9.setCell ⟨w5.heap.size + 1, 1, none⟩ (.int .i64 bY)) ⟨w5.heap.size + 1, 0, none⟩ = some (.slice A2 l2.length c2) := HFi.out.1.2.cell 0
          have k3 : World.cell? (w9.setCell ⟨w5.heap.size + 1, 1, none⟩ (.int .i64 bY)) ⟨w5.heap.size + 1, 1, none⟩ = some (.int .i64 bY) := HFi.out.1.2.cell 1
          go_wp2_with fail
          refine (agree_any l1 m1 (.slice A1 l1.length c1) l2 bY (.slice A2 l2.length c2) q u16 ts y ps yp a b (w9.setCell ⟨w5.heap.size + 1, 1, none⟩ (.int .i64 bY)) HFi.out.2.1 HLn.out.1 HFi.out.2.2.1 HLn.out.2.1 HFi.out.2.2.2.1 HLn.out.2.2.1 HFi.out.2.2.2.2.1 HLn.out.2.2.2.1 HLn.out.2.2.2.2.1 HFi.out.2.2.2.2.2 HLn.out.2.2.2.2.2.1 HLn.out.2.2.2.2.2.2).mono ?_
          rintro e w20 ⟨rfl, hbn⟩
          have HB20 := Lib.hid (HBe.out.trans (hbn.mono (by have := HBe.out.size; omega)))
          clear hbn k0 k1 k2 k3
          go_wp2_with fail
          refine (awake_any _).mono ?_
          rintro e w21 ⟨rfl, hbn⟩
          have HB21 := Lib.hid (HB20.out.trans (hbn.mono (by have := HB20.out.size; omega)))
          clear hbn
          go_wp2
          go_ret
          exact ⟨rfl, by rw [hD5]; exact HB21.out⟩
        · have htl := HPS.out.len
          obtain ⟨g, cap, hyy, hcap, hgl⟩ : ∃ g cap, yp = .slice (some ⟨g, 0, none⟩) ps.length cap ∧ ps.length ≤ cap ∧ (wr.heap.size ≤ g ∧ g < w9.heap.size) := by
            have h := HRn.out.2.2.2.2.1.1
            rcases h.2 with ⟨_, h0⟩ | ⟨g, cap, cur, rfl, hb, hg, hc, hm, hsz, htk⟩
            · omega
            · exact ⟨g, cap, rfl, hc, ⟨HRn.out.2.2.2.2.2.1 g rfl, own_block_lt HRn.out.2.2.2.2.1.1 rfl⟩⟩
          obtain ⟨q0, tr, htt⟩ : ∃ q0 tr, ps = q0 :: tr := by
            cases ps with
            | nil => simp at htl <;> omega
            | cons q0 tr => exact ⟨q0, tr, rfl⟩
          subst htt
          obtain ⟨x0, ur, huu⟩ : ∃ x0 ur, up = x0 :: ur := by
            have h := HRn.out.2.2.2.2.1.len
            cases up with
            | nil => simp at h
            | cons x0 ur => exact ⟨x0, ur, rfl⟩
          subst huu
          have hq3 := (HPS.out.mem q0 (by simp)).1
          have hM := HRn.out.2.2.2.2.1
          rw [hyy] at hM
          have hc0 : w9.cell? ⟨g, 0, none⟩ = some x0 := by
            have h := hM.1.cells (g := g) rfl 0 x0 (by simp)
            exact h
          have hf0 : w9.frozen? ⟨g, 0, none⟩ = false := by
            rcases hM.1.2 with ⟨h0, _⟩ | ⟨g', cap', cur, h1, hb, hg, _⟩
            · injection h0 with h0; exact absurd h0 (by simp)
            · injection h1 with h1 _ _
              injection h1 with h1
              injection h1 with h1 _ _
              subst h1
              simp [World.frozen?, hg]
          have hx0 := hM.2.1 0 x0 (by simp)
          simp only [List.getD_cons_zero] at hx0
          obtain ⟨A0, d0, hxs, _⟩ := RowIn.own hx0
          have hbl := (Below.refl w9.heap.size w9).alloc (Nat.le_refl _) (.cells #[.int .i64 bY] 3)
          have HMp := Lib.hid (hM.below hbl)
          have HOa := Lib.hid (own_below hx0 hbl)
          have HRx := Lib.hid (show ∀ k, x0.ownBlock = some k → wr.heap.size ≤ k ∧ k < w9.heap.size from (fun k hk => ⟨HRn.out.2.2.2.2.2.2 x0 (by simp) k hk, HRn.out.2.2.2.2.1.blk (by simp) hk⟩))
          have hlen1 : (q0 :: tr).length = tr.length + 1 := rfl
          have HAp := Lib.hid (show Ap x0 yp from (HRn.out.2.2.2.2.1.2.2.2 x0 (by simp)).symm)
          rw [hlen1] at hyy hcap
          have HNa := Lib.hid (show ∀ i u, ([Value.int .i64 bY])[i]? = some u → (w9.alloc (.cells #[.int .i64 bY] 3)).cell? ((⟨w9.heap.size, 0, none⟩ : Addr).add i) = some u from World.news_of_block (cs := #[.int .i64 bY]) (heap_alloc_new w9 _))
          have HBa := Lib.hid (show wr.heap.size ≤ (w9.alloc (.cells #[.int .i64 bY] 3)).heap.size by simp; omega)
          subst hyy
          subst hxs
          have hgp : (0 : Int) < (tr.length : Int) + 1 := by omega
          clear hM hx0 hbl
          go_wp2_with (at_builtin; refine wpList_append_own_at _ rfl (.tmp 91) (.tmp 93) 22 rfl wr.heap.size 3 iI _ 1 8 Try.underlying22 HII.out.1 HII.out.2.1 HII.out.2.2.1 HII.out.2.2.2 rfl (by decide) (.slice A0 q0.length d0) q0.length (q0.map (Value.int .i64)) rfl HOa.out ⟨w9.heap.size, 0, none⟩ 1 1 [Value.int .i64 bY] rfl rfl HNa.out (by intro u hu; simp at hu; subst hu; rfl) (by unfold maxLen; omega) (by omega) HBa.out ?_; intro v' w' hown hgr _ hvo; obtain ⟨A9, c9, hv9, _⟩ := RowIn.own hown; subst hv9; have hup := Mps.upd HMp.out hown hgr hvo; have hm1 : Mut wr.heap.size w9.heap.size w9 w' := (Mut.ofBelow ((Below.refl _ _).alloc (Nat.le_refl _) _) _ _).trans (Mut.ofGrown hgr HRx.out); have hcg : w'.heap[g]? = w9.heap[g]? := (hgr.block g (by have := hgl; simp; omega) (fun e => HAp.out g e.symm rfl)).trans (Below.heap_alloc w9 _ g (by omega)); have e0 : w'.cell? ⟨g, 0, none⟩ = some (.slice A0 q0.length d0) := (World.cell?_of_block (a := ⟨g, 0, none⟩) hcg).trans hc0; have e1 : w'.frozen? ⟨g, 0, none⟩ = false := (World.frozen?_of_block (a := ⟨g, 0, none⟩) hcg).trans hf0; have hm2' : Mut wr.heap.size w9.heap.size w9 (w'.setCell ⟨g, 0, none⟩ (.slice A9 (q0.length + 1) c9)) := hm1.trans (Mut.set hgl _ _); have hs0 := hm2'.bk HF0.out.1.1 (by omega); have hs1 := hm2'.bk HF0.out.1.2 (by omega); have j0 : (w'.setCell ⟨g, 0, none⟩ (.slice A9 (q0.length + 1) c9)).cell? ⟨w5.heap.size, 0, none⟩ = some (.slice A1 l1.length c1) := hs0.cell 0; have j1 : (w'.setCell ⟨g, 0, none⟩ (.slice A9 (q0.length + 1) c9)).cell? ⟨w5.heap.size, 1, none⟩ = some (.int .i64 m1) := hs0.cell 1; have j2 : (w'.setCell ⟨g, 0, none⟩ (.slice A9 (q0.length + 1) c9)).cell? ⟨w5.heap.size + 1, 0, none⟩ = some (.slice A2 l2.length c2) := hs1.cell 0; have j3 : (w'.setCell ⟨g, 0, none⟩ (.slice A9 (q0.length + 1) c9)).cell? ⟨w5.heap.size + 1, 1, none⟩ = some (.int .i64 m2) := hs1.cell 1; have HV := Lib.hid (And.intro hup hm1); clear hown hgr hvo hup hm1 hcg hm2' hs0 hs1)
          clear e0 e1 hc0 hf0 j0 j1 j2 j3
          have hm1 := HV.out.2
          have hm2 : Mut wr.heap.size w9.heap.size w' (w'.setCell ⟨g, 0, none⟩ (.slice A9 (q0.length + 1) c9)) := Mut.set hgl _ _
          have hm9 : w9.heap.size ≤ w'.heap.size := hm1.size
          have hlst := HV.out.1.lstsS
          generalize hU : w'.setCell ⟨g, 0, none⟩ (.slice A9 (q0.length + 1) c9) = U at *
          have HFi := Lib.hid (show Fin w5.heap.size (.slice A1 l1.length c1) l1 m1 (.slice A2 l2.length c2) l2 m2 u16 q y ts (.slice (some ⟨g, 0, none⟩) (tr.length + 1) cap) ((q0 ++ [bY]) :: tr) U from ⟨⟨hm2.bk (hm1.bk HF0.out.1.1 (by omega)) (by omega), hm2.bk (hm1.bk HF0.out.1.2 (by omega)) (by omega)⟩, RowIn.own (hm2.own (hm1.own HRn.out.1.1 (fun k hk => by have := HRn.out.1.2 k hk; omega)) (fun k hk => by have := HRn.out.1.2 k hk; omega)), RowIn.own (hm2.own (hm1.own HRn.out.2.1.1 (fun k hk => by have := HRn.out.2.1.2 k hk; omega)) (fun k hk => by have := HRn.out.2.1.2 k hk; omega)), RowIn.own (hm2.own (hm1.own HRn.out.2.2.2.1.1 (fun k hk => by have := HRn.out.2.2.2.1.2 k hk; omega)) (fun k hk => by have := HRn.out.2.2.2.1.2 k hk; omega)), (hm2.mps (hm1.mps HRn.out.2.2.1.1.1 (fun k hk => by have := HRn.out.2.2.1.2.1 k hk; omega) (fun z hz k hk => by have := HRn.out.2.2.1.2.2 z hz k hk; omega)) (fun k hk => by have := HRn.out.2.2.1.2.1 k hk; omega) (fun z hz k hk => by have := HRn.out.2.2.1.2.2 z hz k hk; omega)).lstsS, hlst⟩)
          have HBe := Lib.hid (show Below D w U from (HG.out.trans ((hm1.below D (by omega) (by omega)).mono (Nat.le_refl _))).trans ((hm2.below D (by omega) (by omega)).mono (Nat.le_refl _)))
          have k0 : World.cell? U ⟨w5.heap.size, 0, none⟩ = some (.slice A1 l1.length c1) := HFi.out.1.1.cell 0
          have k1 : World.cell? U ⟨w5.heap.size, 1, none⟩ = some (.int .i64 m1) := HFi.out.1.1.cell 1
          have k2 : World.cell? U ⟨w5.heap.size + 1, 0, none⟩ = some (.slice A2 l2.length c2) := HFi.out.1.2.cell 0
          have k3 : World.cell? U ⟨w5.heap.size + 1, 1, none⟩ = some (.int .i64 m2) := HFi.out.1.2.cell 1
          refine (agree_any l1 m1 (.slice A1 l1.length c1) l2 m2 (.slice A2 l2.length c2) q u16 ts y ((q0 ++ [bY]) :: tr) (.slice (some ⟨g, 0, none⟩) (tr.length + 1) cap) a b U HFi.out.2.1 HLn.out.1 HFi.out.2.2.1 HLn.out.2.1 HFi.out.2.2.2.1 HLn.out.2.2.1 HFi.out.2.2.2.2.1 HLn.out.2.2.2.1 HLn.out.2.2.2.2.1 HFi.out.2.2.2.2.2 (by simp at htl ⊢; unfold maxLen; omega) (fun r hr => (List.mem_cons.1 hr).elim (fun h => by rw [h]; simp; unfold maxLen; omega) (fun h => HPS.out.rows r (by simp [h])))).mono ?_
          rintro e w20 ⟨rfl, hbn⟩
          have HB20 := Lib.hid (HBe.out.trans (hbn.mono (by have := HBe.out.size; omega)))
          clear hbn k0 k1 k2 k3
          go_wp2_with fail
          refine (awake_any _).mono ?_
          rintro e w21 ⟨rfl, hbn⟩
          have HB21 := Lib.hid (HB20.out.trans (hbn.mono (by have := HB20.out.size; omega)))
          clear hbn
          go_wp2
          go_ret
          exact ⟨rfl, by rw [hD5]; exact HB21.out⟩
        · have HFi := Lib.hid (show Fin w5.heap.size (.slice A1 l1.length c1) l1 m1 (.slice A2 l2.length c2) l2 m2 u16 q y ts yp ps w9 from HF0.out)
          have HBe := Lib.hid (show Below D w w9 from HG.out)
          have k0 : World.cell? w9 ⟨w5.heap.size, 0, none⟩ = some (.slice A1 l1.length c1) := HFi.out.1.1.cell 0
          have k1 : World.cell? w9 ⟨w5.heap.size, 1, none⟩ = some (.int .i64 m1) := HFi.out.1.1.cell 1
          have k2 : World.cell? w9 ⟨w5.heap.size + 1, 0, none⟩ = some (.slice A2 l2.length c2) := HFi.out.1.2.cell 0
          have k3 : World.cell? w9 ⟨w5.heap.size + 1, 1, none⟩ = some (.int .i64 m2) := HFi.out.1.2.cell 1
          go_wp2_with fail
          refine (agree_any l1 m1 (.slice A1 l1.length c1) l2 m2 (.slice A2 l2.length c2) q u16 ts y ps yp a b w9 HFi.out.2.1 HLn.out.1 HFi.out.2.2.1 HLn.out.2.1 HFi.out.2.2.2.1 HLn.out.2.2.1 HFi.out.2.2.2.2.1 HLn.out.2.2.2.1 HLn.out.2.2.2.2.1 HFi.out.2.2.2.2.2 HLn.out.2.2.2.2.2.1 HLn.out.2.2.2.2.2.2).mono ?_
          rintro e w20 ⟨rfl, hbn⟩
          have HB20 := Lib.hid (HBe.out.trans (hbn.mono (by have := HBe.out.size; omega)))
          clear hbn k0 k1 k2 k3
          go_wp2_with fail
          refine (awake_any _).mono ?_
          rintro e w21 ⟨rfl, hbn⟩
          have HB21 := Lib.hid (HB20.out.trans (hbn.mono (by have := HB20.out.size; omega)))
          clear hbn
          go_wp2
          go_ret
          exact ⟨rfl, by rw [hD5]; exact HB21.out⟩
        · have HFi := Lib.hid (show Fin w5.heap.size (.slice A1 l1.length c1) l1 m1 (.slice A2 l2.length c2) l2 m2 u16 q y ts yp ps w9 from HF0.out)
          have HBe := Lib.hid (show Below D w w9 from HG.out)
          have k0 : World.cell? w9 ⟨w5.heap.size, 0, none⟩ = some (.slice A1 l1.length c1) := HFi.out.1.1.cell 0
          have k1 : World.cell? w9 ⟨w5.heap.size, 1, none⟩ = some (.int .i64 m1) := HFi.out.1.1.cell 1
          have k2 : World.cell? w9 ⟨w5.heap.size + 1, 0, none⟩ = some (.slice A2 l2.length c2) := HFi.out.1.2.cell 0
          have k3 : World.cell? w9 ⟨w5.heap.size + 1, 1, none⟩ = some (.int .i64 m2) := HFi.out.1.2.cell 1
          go_wp2_with fail
          refine (agree_any l1 m1 (.slice A1 l1.length c1) l2 m2 (.slice A2 l2.length c2) q u16 ts y ps yp a b w9 HFi.out.2.1 HLn.out.1 HFi.out.2.2.1 HLn.out.2.1 HFi.out.2.2.2.1 HLn.out.2.2.1 HFi.out.2.2.2.2.1 HLn.out.2.2.2.1 HLn.out.2.2.2.2.1 HFi.out.2.2.2.2.2 HLn.out.2.2.2.2.2.1 HLn.out.2.2.2.2.2.2).mono ?_
          rintro e w20 ⟨rfl, hbn⟩
          have HB20 := Lib.hid (HBe.out.trans (hbn.mono (by have := HBe.out.size; omega)))
          clear hbn k0 k1 k2 k3
          go_wp2_with fail
          refine (awake_any _).mono ?_
          rintro e w21 ⟨rfl, hbn⟩
          have HB21 := Lib.hid (HB20.out.trans (hbn.mono (by have := HB20.out.size; omega)))
          clear hbn
          go_wp2
          go_ret
          exact ⟨rfl, by rw [hD5]; exact HB21.out⟩
end Go.Proofs.Ytpinncjnfbebkaa
