/- All keys, as the document's answer lists them: in a row that is new. -/
import Derived.Test.YthkeefdapnkgeaaConfRefNeed
import Derived.Test.YthkeefdapnkgeaaConfMade
import Derived.Test.YthkeefdapnkgeaaConfPlains
namespace Go.Proofs.Ythkeefdapnkgeaa
open Go.RowKit Go.ChangeShapes Go.WideShapes
set_option linter.unusedVariables false
set_option linter.unusedSimpArgs false

/-- A call that hands back the keys L in a row of its own. -/
def ListsN (W : World) (L : List K) (e : Ending) (w' : World) : Prop := ∃ p c, e = .returned (.slice p L.length c) ∧ KL w' p L.length c L ∧ Below W.heap.size W w' ∧ ∀ a, p = some a → W.heap.size ≤ a.block
theorem lists_new {W wr : World} {v : Value} {L : List K} {N : Nat} (h : Fill W wr v L N) (hok : ∀ k ∈ L, Kok k) : ListsN W L (.returned v) wr := by
  obtain ⟨p, c, rfl, hk⟩ := KL.of_own h.own hok
  refine ⟨p, c, rfl, hk, h.below, fun a ha => ?_⟩
  rcases h.own.2 with ⟨hn, _⟩ | ⟨g, cap, cur, hn, h1, _⟩
  · simp only [Value.slice.injEq] at hn
    rw [hn.1] at ha
    cases ha
  · simp only [Value.slice.injEq] at hn
    rw [hn.1] at ha
    cases ha
    exact h1
theorem KL.turn {w w' : World} {p : Option Addr} {n c : Nat} {L : List K} (h : KL w p n c L) (hb : ∀ a, p = some a → w'.heap[a.block]? = w.heap[a.block]?) : KL w' p n c L := by
  refine ⟨h.len, h.cap, h.max, h.nil, h.ok, fun h0 => ?_⟩
  obtain ⟨b, off, rfl, hc⟩ := h.cell h0
  have he := hb _ rfl
  refine ⟨b, off, rfl, fun j hj => ?_⟩
  obtain ⟨c0, c1, c2⟩ := hc j hj
  exact ⟨(World.cell?_of_block (a := ⟨b, off + j * 3, none⟩) he).trans c0, (World.cell?_of_block (a := ⟨b, off + j * 3 + 1, none⟩) he).trans c1, (World.cell?_of_block (a := ⟨b, off + j * 3 + 2, none⟩) he).trans c2⟩
set_option maxHeartbeats 1000000 in
theorem refall_new (s w : Int) (W : World) : Calls Try.prog 23 #[.int .i64 s, .int .i64 w] W (ListsN W (refQ s w 5)) := by
  have HOK := Lib.hid (refQ_ok s w)
  have HG := Lib.hid fun (a b c : Nat) (ha : a < 256) (hb : b < 256) (hc : c < 256) W => refgood_any s w a b c (by omega) (by omega) W
  have HF : Hid (Fill W W (.slice none 0 0) [] 0) := Lib.hid ⟨World.ownsRow_nil _ _ _ _, Below.refl _ _, Nat.le_refl _⟩
  go_enter Try.func23, Try.ntmps23
  go_wp2_with fail
  go_loopg [5, 6] 4 (fun g v i wr => ∃ l : Nat, 1 ≤ l ∧ l ≤ 5 ∧ g = 5 - l ∧ i = .int .i64 l ∧ Hid (Fill W wr v (refQ s w l) (16 * l)))
  case atStart => exact ⟨1, Nat.le_refl _, by omega, rfl, rfl, Lib.hid (by rw [refQ_one]; exact HF.out.mono (by omega))⟩
  case round =>
    clear HF
    obtain ⟨l, hl1, hl5, rfl, rfl, HA⟩ := hrel
    by_cases hlt : l < 5
    · have hle : (l : Int) ≤ 4 := by omega
      go_wp2_with fail
      go_loopg [5, 7] 4 (fun g v i wr => ∃ b : Nat, b ≤ 4 ∧ g = 4 - b ∧ i = .int .i64 b ∧ Hid (Fill W wr v (refQ s w l ++ refsku s w l b) (16 * l + 4 * b)))
      case atStart => exact ⟨0, Nat.zero_le _, rfl, rfl, Lib.hid (by rw [show refsku s w (l : Int) 0 = [] from rfl, List.append_nil]; exact HA.out.mono (by omega))⟩
      case round =>
        clear HA
        obtain ⟨b, hb, rfl, rfl, HB⟩ := hrel
        by_cases hbs : b < 4
        · have hbs' : (b : Int) < 4 := by omega
          go_wp2_with fail
          go_loopg [5, 8] 4 (fun g v i wr => ∃ c : Nat, c ≤ 4 ∧ g = 4 - c ∧ i = .int .i64 c ∧ Hid (Fill W wr v ((refQ s w l ++ refsku s w l b) ++ refcol s w l b c) (16 * l + 4 * b + c)))
          case atStart => exact ⟨0, Nat.zero_le _, rfl, rfl, Lib.hid (by rw [show refcol s w (l : Int) b 0 = [] from rfl, List.append_nil]; exact HB.out.mono (by omega))⟩
          case round =>
            clear HB
            obtain ⟨c, hc, rfl, rfl, HC⟩ := hrel
            by_cases hcx : c < 4
            · have hcx' : (c : Int) < 4 := by omega
              have hmost := HC.out.most
              have hg := fun W => HG.out l b c (by omega) (by omega) (by omega) W
              have HC1 := Lib.hid (HC.out.later ((Below.refl _ _).alloc (Nat.le_refl _) (.cells #[.int .u8 (l : Int), .int .u8 (b : Int), .int .u8 (c : Int)] 37)))
              have e0 : (wr.alloc (.cells #[.int .u8 (l : Int), .int .u8 (b : Int), .int .u8 (c : Int)] 37)).cell? ⟨wr.heap.size, 0, none⟩ = some (.int .u8 (l : Int)) := by simp
              have e1 : (wr.alloc (.cells #[.int .u8 (l : Int), .int .u8 (b : Int), .int .u8 (c : Int)] 37)).cell? ⟨wr.heap.size, 1, none⟩ = some (.int .u8 (b : Int)) := by simp
              have e2 : (wr.alloc (.cells #[.int .u8 (l : Int), .int .u8 (b : Int), .int .u8 (c : Int)] 37)).cell? ⟨wr.heap.size, 2, none⟩ = some (.int .u8 (c : Int)) := by simp
              cases hgb : goodB s w (l : Int) b c with
              | true =>
                have hN := refcol_good s w l b c hgb
                rw [hgb] at hg
                have HNN := Lib.hid hN
                clear hN hgb
                generalize hL : (refQ s w l ++ refsku s w l b) ++ refcol s w l b c = L at *
                have HL := Lib.hid hL
                clear hL
                go_wp2_with fail
                refine (hg _).mono ?_
                rintro e w2 ⟨rfl, h⟩
                have HC2 := Lib.hid (HC1.out.later h.below)
                have f0 := (h.below.cell (p := ⟨wr.heap.size, 0, none⟩) (by simp)).trans e0
                have f1 := (h.below.cell (p := ⟨wr.heap.size, 1, none⟩) (by simp)).trans e1
                have f2 := (h.below.cell (p := ⟨wr.heap.size, 2, none⟩) (by simp)).trans e2
                have hsz := HC2.out.below.size
                generalize wr.heap.size = X at *
                clear h e0 e1 e2 hg HC HC1
                go_wp2_with (at_builtin; refine wpList_append_key rfl _ _ rfl W.heap.size _ L.length L rfl (HC2.out.own.alloc _) (by omega) ((l : Int), (b : Int), (c : Int)) w2.heap.size rfl (by simp) (by simp) (by simp) (by simp; omega) ?_; intro v' w3 h1 h2)
                have HN := Lib.hid (HC2.out.step _ h1 h2)
                clear h1 h2 HC2 hmost hsz f0 f1 f2
                go_wp2_with fail
                go_roundg (4 - (c + 1))
                case measure => omega
                case rel => exact ⟨c + 1, by omega, rfl, by go_num, Lib.hid (by rw [HNN.out, ← List.append_assoc, HL.out]; exact HN.out)⟩
              | false =>
                have hN := refcol_bad s w l b c hgb
                rw [hgb] at hg
                have HNN := Lib.hid hN
                clear hN hgb
                go_wp2_with fail
                refine (hg _).mono ?_
                rintro e w2 ⟨rfl, h⟩
                have HC2 := Lib.hid (HC1.out.later h.below)
                clear h e0 e1 e2 hg HC HC1
                go_wp2_with fail
                go_roundg (4 - (c + 1))
                case measure => omega
                case rel => exact ⟨c + 1, by omega, rfl, by go_num, Lib.hid (by rw [HNN.out]; exact HC2.out.mono (by omega))⟩
            · obtain rfl : c = 4 := by omega
              go_wp2_with fail
              go_roundg (4 - (b + 1))
              case measure => omega
              case rel => exact ⟨b + 1, by omega, rfl, by go_num, Lib.hid (by rw [refsku_succ, ← List.append_assoc]; exact HC.out.mono (by omega))⟩
        · obtain rfl : b = 4 := by omega
          go_wp2_with fail
          go_roundg (5 - (l + 1))
          case measure => omega
          case rel => exact ⟨l + 1, by omega, by omega, rfl, by go_num, Lib.hid (by rw [refQ_succ]; exact HB.out.mono (by omega))⟩
    · obtain rfl : l = 5 := by omega
      go_wp2_with fail
      go_ret
      exact lists_new HA.out HOK.out

/-- A plain configuration's cells while its fields v are being gathered. -/
def ccv (s w : Nat) (v : Value) : Array Value := #[.int .i64 s, .int .i64 w, v, .int .u8 0, .int .u8 0, .int .u8 0, .int .u8 0, .int .u8 0, .int .u8 0, .int .u8 0, .int .u8 0, .int .u8 0, .int .u8 0, .int .u8 0, .int .u8 0, .int .u8 0, .int .u8 0, .int .u8 0, .int .u8 0, .int .i64 8, .int .i64 32, .int .i64 2, .int .i64 256, .int .i64 65536, .int .i64 256, .int .i64 0]
theorem ccv_pcf (s w : Nat) (p : Option Addr) (n c : Nat) : ccv s w (.slice p n c) = cc (pcf s w p n c (fun _ => 0) 0) := rfl
/-- While the fields are being gathered. -/
structure RInv (W W2 wr : World) (R B s w : Nat) (pk : Option Addr) (n ck : Nat) (L : List K) (v : Value) (M : List D) : Prop where
  own : wr.ownsRow W2.heap.size 39 6 v M.length (flatG dc M)
  cfg : wr.heap[B]? = some (.cells (ccv s w v) 30 (0, 0))
  ret : ∃ old, wr.heap[R]? = some (.cells old 30 (0, 0)) ∧ old.size = 26
  keys : KL wr pk n ck L
  below : Below W.heap.size W wr
  size : W2.heap.size ≤ wr.heap.size
  w2 : W.heap.size ≤ W2.heap.size
  rB : R ≠ B
  geB : W.heap.size ≤ B
  geR : W.heap.size ≤ R
  ltB : B < W2.heap.size
  ltR : R < W2.heap.size
  pk2 : ∀ a, pk = some a → a.block < W2.heap.size ∧ a.block ≠ B
theorem RInv.step {W W2 wr w3 : World} {R B s w : Nat} {pk : Option Addr} {n ck : Nat} {L : List K} {v v' : Value} {M : List D} (h : RInv W W2 wr R B s w pk n ck L v M) (o1 o2 : Obj) (d : D)
    (h1 : w3.ownsRow W2.heap.size 39 6 v' (M.length + 1) (flatG dc (M ++ [d]))) (h2 : ((wr.alloc o1).alloc o2).grownBy w3 v.ownBlock) : RInv W W2 (w3.setCell ⟨B, 2, none⟩ v') R B s w pk n ck L v' (M ++ [d]) := by
  have hb : Below W2.heap.size wr w3 := (((Below.refl W2.heap.size wr).alloc h.size o1).alloc (by have := h.size; simp; omega) o2).grown h2 (by have := h.size; simp; omega) (fun k hk => (h.own.lt k hk).1)
  obtain ⟨old, h3, h4⟩ := h.ret
  have hs := hb.size
  refine ⟨by simpa using ownsRow_setCell_below h1 (a := ⟨B, 2, none⟩) h.ltB v', block_put 2 v' ((hb.block B h.ltB).trans h.cfg), ⟨old, (Below.heap_setCell _ _ _ _ h.rB).trans ((hb.block R h.ltR).trans h3), h4⟩, h.keys.turn fun a ha => (Below.heap_setCell _ _ _ _ (h.pk2 a ha).2).trans (hb.block a.block (h.pk2 a ha).1), (h.below.trans (hb.mono h.w2)).setCell h.geB _, by have := h.size; simp; omega, h.w2, h.rB, h.geB, h.geR, h.ltB, h.ltR, h.pk2⟩
/-- All fields are gathered. -/
theorem RInv.done {W W2 wr : World} {R B s w : Nat} {pk : Option Addr} {n ck : Nat} {L : List K} {v : Value} {M : List D} (h : RInv W W2 wr R B s w pk n ck L v M) : ∃ p c, v = .slice p M.length c ∧ PInv W wr R B s w p M.length c M 0 0 := by
  obtain ⟨p, c, rfl, hs, hp⟩ := SlG.of_own (d := d0) dc_len (by decide) h.own
  have hB := h.ltB
  have hR := h.ltR
  have hw := h.w2
  refine ⟨p, c, rfl, ⟨CB.congr (C := pcf s w p M.length c (fun _ => 0) 0) h.cfg (cc_pr (pcf s w p M.length c (fun _ => 0) 0) _ _ fun q _ => ?_), h.ret, hs, h.below, h.rB, h.geB, h.geR, fun a ha => by have := hp a ha; omega, fun a ha => by have := hp a ha; omega, fun a ha => by have := hp a ha; omega⟩⟩
  unfold prK
  rw [if_neg (by omega)]
end Go.Proofs.Ythkeefdapnkgeaa
