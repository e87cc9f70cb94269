/- The laws' maps: lists of lists that the law makes, and what maps makes. No condition. -/
import Derived.Test.YtpinncjnfbebkaaFaSome
import Derived.Test.YtpinncjnfbebkaaFaLists
namespace Go.Proofs.Ytpinncjnfbebkaa
open Go.RowKit
set_option linter.unusedVariables false
set_option linter.unusedSimpArgs false
attribute [local go_sem] y_undef
/-- Two rows lie in blocks of their own. -/
def Ap (x y : Value) : Prop := ∀ k, x.ownBlock = some k → y.ownBlock ≠ some k
theorem Ap.symm {x y : Value} (h : Ap x y) : Ap y x := fun k hk e => h k e hk
theorem Ap.kept {x y : Value} (h : Ap x y) : y.ownBlock = none ∨ y.ownBlock ≠ x.ownBlock := by
  cases hy : y.ownBlock with
  | none => exact .inl rfl
  | some k => exact .inr (fun e => h k e.symm hy)
theorem Ap.nil (y : Value) : Ap (.slice none 0 0) y := fun k hk => by simp [Value.ownBlock] at hk
/-- Rows of numbers, each in a block of its own, and the row of them. -/
def Mps (base : Nat) (u : World) (y : Value) (us : List Value) (ts : List (List Int)) : Prop :=
  u.ownsRow base 22 1 y ts.length us ∧ (∀ i x, us[i]? = some x → u.ownsRow base 3 1 x (ts.getD i []).length ((ts.getD i []).map (Value.int .i64))) ∧ us.Pairwise Ap ∧ ∀ x ∈ us, Ap y x
section
variable {u u' : World} {base D : Nat} {y : Value} {us : List Value} {ts : List (List Int)}
theorem Mps.below (h : Mps base u y us ts) (hb : Below u.heap.size u u') : Mps base u' y us ts := ⟨own_below h.1 hb, fun i x hx => own_below (h.2.1 i x hx) hb, h.2.2⟩
theorem Mps.grown (h : Mps base u y us ts) (hg : u.grownBy u' (some D)) (hD : D < base) : Mps base u' y us ts := ⟨own_grown h.1 hg hD, fun i x hx => own_grown (h.2.1 i x hx) hg hD, h.2.2⟩
theorem Mps.len (h : Mps base u y us ts) : us.length = ts.length := by have := h.1.1; omega
/-- A list of lists, as it is read. -/
theorem Mps.lsts (h : Mps base u y us ts) : LstsIn u y ts := by
  have hl := h.len
  rcases h.1.2 with ⟨rfl, h0⟩ | ⟨g, cap, cur, rfl, hB, hg, hcap, _⟩
  · exact ⟨none, 0, by rw [h0], fun i hi => by omega⟩
  · refine ⟨_, cap, rfl, fun i hi => ?_⟩
    have hi' : i < us.length := by omega
    have hx : us[i]? = some us[i] := List.getElem?_eq_getElem hi'
    have hc := h.1.cells (g := g) rfl i _ hx
    have hadd : (⟨g, 0, none⟩ : Addr).add i = ⟨g, 0 + i, none⟩ := by unfold Addr.add; split <;> simp_all
    rw [hadd] at hc
    have hN : NumsIn u us[i] (ts.getD i []) := by
      have := RowIn.own (h.2.1 i _ hx)
      exact this
    exact ⟨g, 0, us[i], rfl, (h.1.lt g rfl).2, hc, hN⟩
theorem Mps.nil (base : Nat) (u : World) : Mps base u (.slice none 0 0) [] [] := ⟨World.ownsRow_nil _ _ _ _, fun i x hx => by simp at hx, List.Pairwise.nil, fun x hx => by simp at hx⟩
theorem own_block_lt {base : Nat} {e : TypeId} {size n k : Nat} {v : Value} {xs : List Value} (h : u.ownsRow base e size v n xs) (hk : v.ownBlock = some k) : k < u.heap.size := (World.ownsRow.lt h k hk).2
end
/-- Lists of lists in the making: the deck, the rows. -/
def Mq (w : World) (D : Nat) (v : Value) (zs : List Int) (y : Value) (us : List Value) (ts : List (List Int)) (u : World) : Prop :=
  Deck u v zs D ∧ D < w.heap.size ∧ w.grownBy u (some D) ∧ Mps w.heap.size u y us ts
/-- And one more row. -/
def Mx (w : World) (D : Nat) (v : Value) (zs : List Int) (y : Value) (us : List Value) (ts : List (List Int)) (x : Value) (q : List Int) (u : World) : Prop :=
  Mq w D v zs y us ts u ∧ u.ownsRow w.heap.size 3 1 x q.length (q.map (Value.int .i64)) ∧ Ap x y ∧ ∀ z ∈ us, Ap x z
section
variable {w u u' : World} {D : Nat} {v y x : Value} {zs : List Int} {us : List Value} {ts : List (List Int)} {q : List Int}
theorem Mq.below (h : Mq w D v zs y us ts u) (hb : Below u.heap.size u u') : Mq w D v zs y us ts u' := ⟨h.1.below hb, h.2.1, grown_trans h.2.2.1 (grown_below hb), h.2.2.2.below hb⟩
theorem Mq.next (h : Mq w D v zs y us ts u) (hd : Deck u' v zs D) (hg : u.grownBy u' (some D)) : Mq w D v zs y us ts u' := ⟨hd, h.2.1, grown_trans h.2.2.1 hg, h.2.2.2.grown hg h.2.1⟩
theorem Mx.below (h : Mx w D v zs y us ts x q u) (hb : Below u.heap.size u u') : Mx w D v zs y us ts x q u' := ⟨h.1.below hb, own_below h.2.1 hb, h.2.2⟩
theorem Mx.alloc (h : Mx w D v zs y us ts x q u) (o : Obj) : Mx w D v zs y us ts x q (u.alloc o) := h.below ((Below.refl _ _).alloc (Nat.le_refl _) o)
theorem Mx.next (h : Mx w D v zs y us ts x q u) (hd : Deck u' v zs D) (hg : u.grownBy u' (some D)) : Mx w D v zs y us ts x q u' := ⟨h.1.next hd hg, own_grown h.2.1 hg h.1.2.1, h.2.2⟩
theorem Mq.start (h : Mq w D v zs y us ts u) : Mx w D v zs y us ts (.slice none 0 0) [] u := ⟨h, World.ownsRow_nil _ _ _ _, Ap.nil _, fun z _ => Ap.nil _⟩
theorem grown_old {r : Option Nat} (hw : w.grownBy u (some D)) (hg : u.grownBy u' r) (hr : ∀ k, r = some k → w.heap.size ≤ k) : w.grownBy u' (some D) :=
  ⟨hg.os.trans hw.os, hg.tape.trans hw.tape, hg.output.trans hw.output, Nat.le_trans hw.size hg.size, fun b hb hne => (hg.block b (Nat.lt_of_lt_of_le hb hw.size) (fun e => by have := hr b e.symm; omega)).trans (hw.block b hb hne)⟩
theorem Mx.app (h : Mx w D v zs y us ts x q u) {x' : Value} {a : Int} (hown : u'.ownsRow w.heap.size 3 1 x' (q.length + 1) (q.map (Value.int .i64) ++ [.int .i64 a])) (hg : u.grownBy u' x.ownBlock) (hv : x'.ownBlock = x.ownBlock ∨ x'.ownBlock = some u.heap.size) :
    Mx w D v zs y us ts x' (q ++ [a]) u' := by
  obtain ⟨⟨hd, hD, hw, h1, h2, h3, h4⟩, hO, hy, hz⟩ := h
  have hr : ∀ k, x.ownBlock = some k → w.heap.size ≤ k := fun k hk => (hO.lt k hk).1
  have hx : ∀ z, Ap x z → (∀ k, z.ownBlock = some k → k < u.heap.size) → Ap x' z := fun z ha hl k hk e => by
    rcases hv with e2 | e2
    · exact ha k (e2 ▸ hk) e
    · rw [e2] at hk; injection hk with hk; have := hl k e; omega
  have hl : ∀ z ∈ us, ∀ k, z.ownBlock = some k → k < u.heap.size := fun z hzm k hk => by
    obtain ⟨i, hi, rfl⟩ := List.getElem_of_mem hzm
    exact own_block_lt (h2 i _ (List.getElem?_eq_getElem hi)) hk
  refine ⟨⟨hd.grown hg (fun k hk => by have := hr k hk; omega), hD, grown_old hw hg hr, h1.kept hg hy.kept, fun i z hzi => (h2 i z hzi).kept hg (hz z (List.mem_of_getElem? hzi)).kept, h3, h4⟩, ?_, hx _ hy (fun k hk => own_block_lt h1 hk), fun z hzm => hx z (hz z hzm) (hl z hzm)⟩
  rw [List.map_append]
  simpa using hown
theorem Mx.push (h : Mx w D v zs y us ts x q u) {y' : Value} (hown : u'.ownsRow w.heap.size 22 1 y' (ts.length + 1) (us ++ [x])) (hg : u.grownBy u' y.ownBlock) (hv : y'.ownBlock = y.ownBlock ∨ y'.ownBlock = some u.heap.size) :
    Mq w D v zs y' (us ++ [x]) (ts ++ [q]) u' := by
  have hlen : us.length = ts.length := h.1.2.2.2.len
  obtain ⟨⟨hd, hD, hw, h1, h2, h3, h4⟩, hO, hy, hz⟩ := h
  have hr : ∀ k, y.ownBlock = some k → w.heap.size ≤ k := fun k hk => (h1.lt k hk).1
  have hx : ∀ z, Ap y z → (∀ k, z.ownBlock = some k → k < u.heap.size) → Ap y' z := fun z ha hl k hk e => by
    rcases hv with e2 | e2
    · exact ha k (e2 ▸ hk) e
    · rw [e2] at hk; injection hk with hk; have := hl k e; omega
  refine ⟨hd.grown hg (fun k hk => by have := hr k hk; omega), hD, grown_old hw hg hr, by simpa using hown, fun i z hzi => ?_, ?_, fun z hzm => ?_⟩
  · by_cases hi : i < us.length
    · rw [List.getElem?_append_left hi] at hzi
      have e : (ts ++ [q]).getD i [] = ts.getD i [] := by simp [List.getD, List.getElem?_append_left (show i < ts.length by omega)]
      rw [e]
      exact (h2 i z hzi).kept hg (h4 z (List.mem_of_getElem? hzi)).kept
    · rw [List.getElem?_append_right (by omega)] at hzi
      have hi0 : i - us.length = 0 := by
        have := (List.getElem?_eq_some_iff.1 hzi).1
        simp at this
        omega
      rw [hi0] at hzi
      obtain rfl : x = z := by simpa using hzi
      have e : (ts ++ [q]).getD i [] = q := by
        have : i = ts.length := by omega
        subst this
        simp [List.getD]
      rw [e]
      exact hO.kept hg hy.symm.kept
  · rw [List.pairwise_append]
    exact ⟨h3, by simp, fun a ha b hb => by
      obtain rfl : b = x := by simpa using hb
      exact (hz a ha).symm⟩
  · rcases List.mem_append.1 hzm with hm | hm
    · refine hx z (h4 z hm) fun k hk => ?_
      obtain ⟨i, hi, rfl⟩ := List.getElem_of_mem hm
      exact own_block_lt (h2 i _ (List.getElem?_eq_getElem hi)) hk
    · obtain rfl : z = x := by simpa using hm
      exact hx z hy.symm fun k hk => own_block_lt hO hk
end
/-- What maps answers. -/
def MapsPost (n D : Nat) (v : Value) (zs : List Int) (w : World) (e : Ending) (u : World) : Prop :=
  ∃ y us ts, e = .returned y ∧ Fa.Mk n (2 * n) ts ∧ Mq w D v zs y us ts u
theorem Try.infoLi : (Try.prog.info? 22).map (fun i => (i.zero, i.size, i.bytes)) = some (some (.slice none 0 0), 1, 24) := by kernel_rfl
set_option maxRecDepth 100000 in
set_option maxHeartbeats 16000000 in
theorem maps_any (D n : Nat) (v : Value) (zs : List Int) (w : World) (hd : Deck w v zs D) (hn : n ≤ 30) :
    Calls Try.prog 13 #[.pointer (some ⟨D, 0, none⟩), .int .i64 n] w (MapsPost n D v zs w) := by
  have H0 := Lib.hid (show Mq w D v zs (.slice none 0 0) [] [] w from ⟨hd, hd.lt, grown_refl _ _, Mps.nil _ _⟩)
  clear hd
  obtain ⟨iI, hi0, hz0, hz1, hz2⟩ := info_parts Try.infoInt
  have HII := Lib.hid (And.intro hi0 (And.intro hz0 (And.intro hz1 hz2)))
  clear hi0 hz0 hz1 hz2
  obtain ⟨iL, hi0, hz0, hz1, hz2⟩ := info_parts Try.infoLi
  have HIL := Lib.hid (And.intro hi0 (And.intro hz0 (And.intro hz1 hz2)))
  clear hi0 hz0 hz1 hz2
  go_enter Try.func13, Try.ntmps13
  go_wp2
  go_loopw [5, 6, 7] (fun y c i wr => ∃ (k : Nat) (kk : Nat) (us : List Value) (ts : List (List Int)), k ≤ n ∧ i = .int .i64 k ∧ c = .int .i64 kk ∧ kk ≤ 2 * k ∧ Hid ((ts.length = k ∧ ∀ q ∈ ts, q.length ≤ 3 ∧ ∀ a ∈ q, 0 ≤ a ∧ a < (kk : Int)) ∧ Mq w D v zs y us ts wr)) (fun _ _ i _ => n - (intOf i).toNat)
  case atStart => exact ⟨0, 0, [], [], Nat.zero_le _, rfl, rfl, by omega, Lib.hid ⟨⟨rfl, fun q hq => by simp at hq⟩, H0.out⟩⟩
  case round =>
    clear H0
    obtain ⟨k, kk, us, ts, hk, rfl, rfl, hkk, HK⟩ := hrel
    by_cases hlt : k < n
    · have hlt' : (k : Int) < n := by omega
      go_wp2_with fail
      refine (next_any 3 D v zs _ HK.out.2.1 (by omega)).mono ?_
      rintro e w1 ⟨r, rfl, hr0, hr1, hd1, hg1⟩
      obtain ⟨j, rfl⟩ := Int.eq_ofNat_of_zero_le hr0
      have HS := Lib.hid ((HK.out.2.next hd1 hg1).start)
      have HT := Lib.hid HK.out.1
      have hj2 : j ≤ 2 := by omega
      clear hd1 hg1 HK hr0 hr1
      go_wp2
      go_loopw [6, 8, 9] (fun c x i wr => ∃ (j' kk' : Nat) (q : List Int), i = .int .i64 j' ∧ c = .int .i64 kk' ∧ kk ≤ kk' ∧ kk' + j' ≤ 2 * (k + 1) ∧ q.length + j' ≤ 2 ∧ Hid ((∀ a ∈ q, 0 ≤ a ∧ a < (kk' : Int)) ∧ Mx w D v zs u5 us ts x q wr)) (fun _ _ i _ => (intOf i).toNat)
      case atStart => exact ⟨j, kk, [], rfl, rfl, by omega, by omega, by simp; omega, Lib.hid ⟨fun a ha => by simp at ha, HS.out⟩⟩
      case round =>
        clear HS
        obtain ⟨j', kk', q, rfl, rfl, h1, h2, h3, HJ⟩ := hrel
        have HJ2 := Lib.hid HJ.out.2
        by_cases hj : 0 < j'
        · have hj' : (0 : Int) < j' := by omega
          have HNa := Lib.hid (show ∀ i u, ([Value.int .i64 (kk' : Int)])[i]? = some u → (wr.alloc (.cells #[.int .i64 (kk' : Int)] 3)).cell? ((⟨wr.heap.size, 0, none⟩ : Addr).add i) = some u from World.news_of_block (cs := #[.int .i64 (kk' : Int)]) (heap_alloc_new wr _))
          have HBa := Lib.hid (show w.heap.size ≤ (wr.alloc (.cells #[.int .i64 (kk' : Int)] 3)).heap.size by have := HJ2.out.1.2.2.1.size; simp; omega)
          go_wp2_with (at_builtin; refine wpList_append_own_at _ rfl (.tmp 21) (.tmp 23) 22 rfl w.heap.size 3 iI _ 1 8 Try.underlying22 HII.out.1 HII.out.2.1 HII.out.2.2.1 HII.out.2.2.2 rfl (by decide) u8 q.length (q.map (Value.int .i64)) rfl (HJ2.out.alloc _).2.1 ⟨wr.heap.size, 0, none⟩ 1 1 [Value.int .i64 (kk' : Int)] rfl rfl HNa.out (by intro u hu; simp at hu; subst hu; rfl) (by unfold maxLen; omega) (by omega) HBa.out ?_; intro v' w' hown hgr _ hvo; have HXa := Lib.hid ((HJ2.out.alloc _).app (a := (kk' : Int)) hown hgr hvo); clear hown hgr hvo)
          go_roundw
          case rel => exact ⟨j' - 1, kk' + 1, q ++ [(kk' : Int)], by first | rfl | go_num, by first | rfl | go_num, by omega, by omega, by simp; omega, Lib.hid ⟨fun a ha => by
            rcases List.mem_append.1 ha with h | h
            · have := HJ.out.1 a h; omega
            · obtain rfl : a = (kk' : Int) := by simpa using h
              omega, HXa.out⟩⟩
          case measure => simp [intOf]; omega
        · have hj' : ¬ (0 : Int) < j' := by omega
          have HM := Lib.hid HJ.out.1
          go_wp2_with fail
          refine (next_any 9 D v zs _ HJ.out.2.1.1 (by omega)).mono ?_
          rintro e w2 ⟨r, rfl, hr0, hr1, hd2, hg2⟩
          have HX2 := Lib.hid (HJ.out.2.next hd2 hg2)
          clear hd2 hg2 HJ
          have hr8 : 0 ≤ r ∧ r ≤ 8 := by omega
          clear hr0 hr1
          by_cases c8 : r = 8
          · subst c8
            by_cases ck : 0 < kk'
            · have ck' : (0 : Int) < kk' := by omega
              go_wp2_with fail
              refine (next_any kk' D v zs _ HX2.out.1.1 (by omega)).mono ?_
              rintro e w3 ⟨r, rfl, hr0, hr1, hd3, hg3⟩
              have HX3 := Lib.hid (HX2.out.next hd3 hg3)
              have hr9 : 0 ≤ r ∧ r < kk' := by omega
              clear hd3 hg3 HX2 hr0 hr1 hr8
              have HNb := Lib.hid (show ∀ i u, ([Value.int .i64 r])[i]? = some u → (w3.alloc (.cells #[.int .i64 r] 3)).cell? ((⟨w3.heap.size, 0, none⟩ : Addr).add i) = some u from World.news_of_block (cs := #[.int .i64 r]) (heap_alloc_new w3 _))
              have HBb := Lib.hid (show w.heap.size ≤ (w3.alloc (.cells #[.int .i64 r] 3)).heap.size by have := HX3.out.1.2.2.1.size; simp; omega)
              go_wp2_with (first | (at_builtin; refine wpList_append_own_at _ rfl (.tmp 34) (.tmp 38) 22 rfl w.heap.size 3 iI _ 1 8 Try.underlying22 HII.out.1 HII.out.2.1 HII.out.2.2.1 HII.out.2.2.2 rfl (by decide) u8 q.length (q.map (Value.int .i64)) rfl (HX3.out.alloc _).2.1 ⟨w3.heap.size, 0, none⟩ 1 1 [Value.int .i64 r] rfl rfl HNb.out (by intro u hu; simp at hu; subst hu; rfl) (by unfold maxLen; omega) (by omega) HBb.out ?_; intro v' w' hown hgr _ hvo; have HXb := Lib.hid ((HX3.out.alloc _).app (a := r) hown hgr hvo); clear hown hgr hvo; have HX4 := HXb; obtain ⟨A8, d8, hx8, _⟩ := RowIn.own HX4.out.2.1; simp only [List.length_append, List.length_cons, List.length_nil, Nat.zero_add] at hx8; subst hx8; have HNc := Lib.hid (show ∀ i u, ([Value.slice A8 (q.length + 1) d8])[i]? = some u → (w'.alloc (.cells #[Value.slice A8 (q.length + 1) d8] 22)).cell? ((⟨w'.heap.size, 0, none⟩ : Addr).add i) = some u from World.news_of_block (cs := #[Value.slice A8 (q.length + 1) d8]) (heap_alloc_new w' _)); have HBc := Lib.hid (show w.heap.size ≤ (w'.alloc (.cells #[Value.slice A8 (q.length + 1) d8] 22)).heap.size from (by have := HX4.out.1.2.2.1.size; simp; omega)); have HOc := Lib.hid (show ∀ u ∈ [Value.slice A8 (q.length + 1) d8], u.oneCell' = true from (by intro u hu; obtain rfl : u = Value.slice A8 (q.length + 1) d8 := (by simpa using hu); rfl)); have htlc := HT.out.1) | (at_builtin; refine wpList_append_own_at _ rfl (.tmp 40) (.tmp 42) 32 rfl w.heap.size 22 iL _ 1 24 Try.underlying32 HIL.out.1 HIL.out.2.1 HIL.out.2.2.1 HIL.out.2.2.2 rfl (by decide) u5 ts.length us rfl (HX4.out.alloc _).1.2.2.2.1 ⟨w'.heap.size, 0, none⟩ 1 1 [Value.slice A8 (q.length + 1) d8] rfl rfl HNc.out HOc.out (by unfold maxLen; omega) (by omega) HBc.out ?_; intro v' w' hown hgr _ hvo; have HYc := Lib.hid ((HX4.out.alloc _).push hown hgr hvo); clear hown hgr hvo) | fail)
              go_roundw
              case rel => exact ⟨k + 1, kk', us ++ [Value.slice A8 (q.length + 1) d8], ts ++ [(q ++ [r])], by omega, by first | rfl | go_num, rfl, by omega, Lib.hid ⟨⟨by have := HT.out.1; simp; omega, fun q0 hq0 => by
                rcases List.mem_append.1 hq0 with h | h
                · exact ⟨(HT.out.2 q0 h).1, fun a ha => by have := (HT.out.2 q0 h).2 a ha; omega⟩
                · obtain rfl : q0 = (q ++ [r]) := by simpa using h
                  exact ⟨by simp; omega, fun a ha => by
                    rcases List.mem_append.1 ha with h | h
                    · exact HM.out a h
                    · obtain rfl : a = r := by simpa using h
                      exact hr9⟩⟩, HYc.out⟩⟩
              case measure => simp [intOf]; omega
            · have ck' : ¬ (0 : Int) < kk' := by omega
              obtain ⟨A8, d8, hx8, _⟩ := RowIn.own HX2.out.2.1
              subst hx8
              have HNc := Lib.hid (show ∀ i u, ([Value.slice A8 q.length d8])[i]? = some u → (w2.alloc (.cells #[Value.slice A8 q.length d8] 22)).cell? ((⟨w2.heap.size, 0, none⟩ : Addr).add i) = some u from World.news_of_block (cs := #[Value.slice A8 q.length d8]) (heap_alloc_new w2 _))
              have HBc := Lib.hid (show w.heap.size ≤ (w2.alloc (.cells #[Value.slice A8 q.length d8] 22)).heap.size by have := HX2.out.1.2.2.1.size; simp; omega)
              have HOc := Lib.hid (show ∀ u ∈ [Value.slice A8 q.length d8], u.oneCell' = true by intro u hu; obtain rfl : u = Value.slice A8 q.length d8 := (by simpa using hu); rfl)
              have htlc := HT.out.1
              go_wp2_with (at_builtin; refine wpList_append_own_at _ rfl (.tmp 40) (.tmp 42) 32 rfl w.heap.size 22 iL _ 1 24 Try.underlying32 HIL.out.1 HIL.out.2.1 HIL.out.2.2.1 HIL.out.2.2.2 rfl (by decide) u5 ts.length us rfl (HX2.out.alloc _).1.2.2.2.1 ⟨w2.heap.size, 0, none⟩ 1 1 [Value.slice A8 q.length d8] rfl rfl HNc.out HOc.out (by unfold maxLen; omega) (by omega) HBc.out ?_; intro v' w' hown hgr _ hvo; have HYc := Lib.hid ((HX2.out.alloc _).push hown hgr hvo); clear hown hgr hvo)
              go_roundw
              case rel => exact ⟨k + 1, kk', us ++ [Value.slice A8 q.length d8], ts ++ [q], by omega, by first | rfl | go_num, rfl, by omega, Lib.hid ⟨⟨by have := HT.out.1; simp; omega, fun q0 hq0 => by
                rcases List.mem_append.1 hq0 with h | h
                · exact ⟨(HT.out.2 q0 h).1, fun a ha => by have := (HT.out.2 q0 h).2 a ha; omega⟩
                · obtain rfl : q0 = q := by simpa using h
                  exact ⟨by omega, fun a ha => HM.out a ha⟩⟩, HYc.out⟩⟩
              case measure => simp [intOf]; omega
          · have c8' : (r == 8) = false := by simp [c8]
            obtain ⟨A8, d8, hx8, _⟩ := RowIn.own HX2.out.2.1
            subst hx8
            have HNc := Lib.hid (show ∀ i u, ([Value.slice A8 q.length d8])[i]? = some u → (w2.alloc (.cells #[Value.slice A8 q.length d8] 22)).cell? ((⟨w2.heap.size, 0, none⟩ : Addr).add i) = some u from World.news_of_block (cs := #[Value.slice A8 q.length d8]) (heap_alloc_new w2 _))
            have HBc := Lib.hid (show w.heap.size ≤ (w2.alloc (.cells #[Value.slice A8 q.length d8] 22)).heap.size by have := HX2.out.1.2.2.1.size; simp; omega)
            have HOc := Lib.hid (show ∀ u ∈ [Value.slice A8 q.length d8], u.oneCell' = true by intro u hu; obtain rfl : u = Value.slice A8 q.length d8 := (by simpa using hu); rfl)
            have htlc := HT.out.1
            go_wp2_with (at_builtin; refine wpList_append_own_at _ rfl (.tmp 40) (.tmp 42) 32 rfl w.heap.size 22 iL _ 1 24 Try.underlying32 HIL.out.1 HIL.out.2.1 HIL.out.2.2.1 HIL.out.2.2.2 rfl (by decide) u5 ts.length us rfl (HX2.out.alloc _).1.2.2.2.1 ⟨w2.heap.size, 0, none⟩ 1 1 [Value.slice A8 q.length d8] rfl rfl HNc.out HOc.out (by unfold maxLen; omega) (by omega) HBc.out ?_; intro v' w' hown hgr _ hvo; have HYc := Lib.hid ((HX2.out.alloc _).push hown hgr hvo); clear hown hgr hvo)
            go_roundw
            case rel => exact ⟨k + 1, kk', us ++ [Value.slice A8 q.length d8], ts ++ [q], by omega, by first | rfl | go_num, rfl, by omega, Lib.hid ⟨⟨by have := HT.out.1; simp; omega, fun q0 hq0 => by
              rcases List.mem_append.1 hq0 with h | h
              · exact ⟨(HT.out.2 q0 h).1, fun a ha => by have := (HT.out.2 q0 h).2 a ha; omega⟩
              · obtain rfl : q0 = q := by simpa using h
                exact ⟨by omega, fun a ha => HM.out a ha⟩⟩, HYc.out⟩⟩
            case measure => simp [intOf]; omega
    · have hkn : k = n := by omega
      have hlt' : ¬ (k : Int) < n := by omega
      go_wp2
      go_ret
      exact ⟨_, us, ts, rfl, ⟨by rw [HK.out.1.1, hkn], fun q hq => ⟨(HK.out.1.2 q hq).1, fun a ha => by have := (HK.out.1.2 q hq).2 a ha; omega⟩⟩, HK.out.2⟩
end Go.Proofs.Ytpinncjnfbebkaa
