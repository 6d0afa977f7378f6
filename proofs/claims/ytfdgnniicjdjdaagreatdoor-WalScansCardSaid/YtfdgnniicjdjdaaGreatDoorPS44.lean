import Derived.Test.YtfdgnniicjdjdaaGreatDoorPS17
import Derived.Test.YtfdgnniicjdjdaaGreatDoorPS21
namespace Go.Proofs.YtfdgnniicjdjdaaGreatDoor
open Go.Lib (hid)
open Go.RowKit Go.ChangeShapes Go.WideShapes
set_option linter.unusedVariables false
set_option maxRecDepth 10000
set_option linter.unusedSimpArgs false
def zi (L:List Nat):List Int:=L.map fun x=>((x:Nat):Int)
theorem zi_len (L:List Nat):(zi L).length=L.length:=by simp [zi]
theorem zi_append (L M:List Nat):zi (L++M)=zi L++zi M:=by simp [zi]
theorem zi_getD (L:List Nat) (j:Nat):(zi L).getD j 0=((L.getD j 0:Nat):Int):=by
 simp only [zi,List.getD,List.getElem?_map]
 cases L[j]? <;> rfl
theorem Sl.bl {w:World} {p:Option Addr} {n c:Nat} {L:List Nat} (h:Sl w p n c L) (hm:c≤maxLen):BL w p n c (zi L):=by
 refine BL.mk (by rw [zi_len];exact h.len) h.cap hm h.nil fun h0=>?_
 obtain⟨b,off,hp,hlt,hc⟩:=h.blk h0
 exact⟨b,off,hp,hlt,fun j hj=>by rw [hc j hj,zi_getD]⟩
structure LS where
 d:DS
 wb:List Nat
 wr:Nat
 su:Nat
 kp:Nat
def LS.fin (s:LS):Nat:=s.wr+s.wb.length
abbrev z6f (p:Option Addr) (wv:Value) (wr su kp:Nat):Array Value:=#[.pointer p,wv,.int .i64 (wr:Nat),.int .i64 (su:Nat),.int .i64 (kp:Nat)]
structure Lga (w:World) (col:Nat→Nat) (B G:Nat) (wv:Value) (s:LS):Prop where
 dk:Dk w col 1 B s.d
 blk:w.heap[G]?=some (.cells (z6f (some ⟨B,0,none⟩) wv s.wr s.su s.kp) 117 (0,0))
 cG:col G=7
 row:RowB w wv s.wb.length (zi s.wb)
 at_:∀ k,wv.ownBlock=some k→col k=8
 lt:∀ x∈s.wb,x<256
def Lg (w:World) (col:Nat→Nat) (B G:Nat) (s:LS):Prop:=∃ wv,Lga w col B G wv s
def lown (col:Nat→Nat) (k:Nat):Prop:=1≤col k∧col k≤8
section
variable {w w':World} {col col':Nat→Nat} {B G:Nat} {wv:Value} {s:LS}
theorem Lga.keep {S:Nat→Prop} (h:Lga w col B G wv s) (hc:Chg S w w') (hs:∀ k,col k=0∨lown col k→¬ S k):Lga w' col B G wv s:=by
 refine⟨h.dk.keep hc fun k hk=>hs k ?_,(hc.block G (z0g h.blk) (hs G (.inr (by have:=h.cG;unfold lown;omega)))).trans h.blk,h.cG,h.row.keep hc fun k hk=>hs k (.inr (by have:=h.at_ k hk;unfold lown;omega)),h.at_,h.lt⟩
 unfold own at hk
 unfold lown
 omega
theorem Lga.later (h:Lga w col B G wv s) (hb:Below w.heap.size w w'):Lga w' col B G wv s:=h.keep (Chg.of_below (S:=fun _=>False) hb) fun _ _ h=>h
theorem Lga.recol (h:Lga w col B G wv s) (he:Ext w col col'):Lga w col' B G wv s :=
 ⟨h.dk.recol he,h.blk,(he G (z0g h.blk)).trans h.cG,h.row,fun k hk=>(he k (h.row.bound k hk)).trans (h.at_ k hk),h.lt⟩
theorem Lg.keep {S:Nat→Prop} (h:Lg w col B G s) (hc:Chg S w w') (hs:∀ k,col k=0∨lown col k→¬ S k):Lg w' col B G s:=by
 obtain⟨wv,h⟩:=h
 exact⟨wv,h.keep hc hs⟩
theorem Lg.later (h:Lg w col B G s) (hb:Below w.heap.size w w'):Lg w' col B G s:=h.keep (Chg.of_below (S:=fun _=>False) hb) fun _ _ h=>h
def LT (w:World) (col:Nat→Nat) (B G:Nat) (s:LS) (w':World):Prop:=∃ col',Ext w col col'∧Lg w' col' B G s∧Chg (lown col) w w'
theorem LT.same (h:Lg w col B G s) (hb:Below w.heap.size w w'):LT w col B G s w':=⟨col,Ext.refl _ _,h.later hb,Chg.of_below hb⟩
theorem q1q {k:Nat} (h:own col 1 k):lown col k:=by unfold own at h;unfold lown;omega
theorem Lga.cells (h:Lga w col B G wv s):w.cell? ⟨G,0,none⟩=some (.pointer (some ⟨B,0,none⟩))∧w.cell? ⟨G,1,none⟩=some wv∧w.cell? ⟨G,2,none⟩=some (.int .i64 (s.wr:Nat))∧w.cell? ⟨G,3,none⟩=some (.int .i64 (s.su:Nat))∧w.cell? ⟨G,4,none⟩=some (.int .i64 (s.kp:Nat)) :=
 ⟨z0a h.blk rfl,z0a h.blk rfl,z0a h.blk rfl,z0a h.blk rfl,z0a h.blk rfl⟩
theorem Lga.disk {d':DS} (h:Lga w col B G wv s) (ht:z5t w col 1 B d' w'):∃ col',Ext w col col'∧Lga w' col' B G wv { s with d:=d' }∧Chg (own col 1) w w':=by
 obtain⟨col',he,hd,hc⟩:=ht
 have g:=h.recol he
 have hc':Chg (own col' 1) w w':=hc.mono fun k hk h=>by unfold own at *;rw [he k hk];exact h
 refine⟨col',he,⟨hd,(hc'.block G (z0g g.blk) (by have:=g.cG;unfold own;omega)).trans g.blk,g.cG,g.row.keep hc' fun k hk=>by have:=g.at_ k hk;unfold own;omega,g.at_,g.lt⟩,hc⟩
def kn (x:Int) (lo hi:Nat):Nat:=(min (max x lo) hi).toNat
theorem kn_eq (x:Int) (lo hi:Nat):min (max x (lo:Nat)) (hi:Nat)=((kn x lo hi:Nat):Int):=by unfold kn;omega
theorem wal_kept (x:Int) (lo hi:Nat) (w:World):Calls Tryz.prog 56 #[.int .i64 x,.int .i64 (lo:Nat),.int .i64 (hi:Nat)] w fun e w'=>e=.returned (.int .i64 (kn x lo hi:Nat))∧w'=w:=by
 have hk:(if (hi:Int)<(if x<(lo:Int) then (lo:Int) else x) then (hi:Int) else (if x<(lo:Int) then (lo:Int) else x))=((kn x lo hi:Nat):Int):=by unfold kn;split <;> split <;> omega
 have hk2:=kn_eq x lo hi
 have hk3:min (hi:Int) (max x (lo:Nat))=((kn x lo hi:Nat):Int):=by unfold kn;omega
 generalize kn x lo hi=y at *
 go_enter Tryz.func56,Tryz.ntmps56
 go_wp2_with fail
 all_goals (go_ret;exact⟨rfl,rfl⟩)
theorem q0e (h:Lga w col B G wv s):Calls Tryz.prog 78 #[.pointer (some ⟨G,0,none⟩)] w fun e w'=>e=.returned (.agg (z6f (some ⟨B,0,none⟩) wv s.wr s.su s.kp))∧Below w.heap.size w w':=by
 obtain⟨c0,c1,c2,c3,c4⟩:=h.cells
 have HA:=hid (z0b w (.cells (z6f (some ⟨B,0,none⟩) wv s.wr s.su s.kp) 117))
 have HB:Hid (Below w.heap.size w (w.alloc (.cells (z6f (some ⟨B,0,none⟩) wv s.wr s.su s.kp) 117))):=hid ((Below.refl _ _).alloc (Nat.le_refl _) _)
 have hlt:=z0g h.blk
 obtain⟨p,n,hv,_⟩:=h.row.sl
 subst hv
 clear h
 generalize s.wb.length=m at *
 go_enter Tryz.func78,Tryz.ntmps78
 go_wp2_with fail
 refine bodyPost_ret (v:=.agg (z6f (some ⟨B,0,none⟩) (.slice p m n) s.wr s.su s.kp)) ?_ rfl ⟨rfl,HB.out⟩
 exact results_cell_row rfl _ _ w.heap.size 117 _ (0,0) _ rfl HA.out Tryz.underlying117 rfl (by kernel_rfl)
end
section
variable {w w':World} {col col':Nat→Nat} {B G:Nat} {wv:Value} {s:LS}
theorem q1j (h:Lg w col B G s) (hbig:s.fin≤1000000000000000):Calls Tryz.prog 36 #[.pointer (some ⟨G,0,none⟩)] w fun e w'=>e=.returned (.int .i64 (s.fin:Nat))∧Below w.heap.size w w':=by
 obtain⟨wv,h⟩:=h
 have hl:=q0e h
 obtain⟨p,n,hv,_⟩:=h.row.sl
 subst hv
 clear h
 unfold LS.fin at *
 generalize s.wb.length=m at *
 generalize s.wr=r at *
 generalize s.su=u at *
 generalize s.kp=q at *
 go_enter Tryz.func36,Tryz.ntmps36
 go_wp2_with fail
 refine hl.mono ?_
 rintro e w1 ⟨rfl,hb⟩
 have HB:Hid (Below w.heap.size w (w1.alloc (.cells (z6f (some ⟨B,0,none⟩) (.slice p m n) r u q) 117))):=hid (hb.alloc hb.size _)
 clear hl hb
 go_wp2_with fail
 go_ret
 exact⟨rfl,HB.out⟩
theorem log_wr (p:Option Addr) (v:Value) (r u q:Int) (w:World):(Instr.field 117 (.agg #[.pointer p,v,.int .i64 r,.int .i64 u,.int .i64 q]) 2).run Tryz.prog w=.ok (.int .i64 r) w:=by kernel_rfl
theorem log_su (p:Option Addr) (v:Value) (r u q:Int) (w:World):(Instr.field 117 (.agg #[.pointer p,v,.int .i64 r,.int .i64 u,.int .i64 q]) 3).run Tryz.prog w=.ok (.int .i64 u) w:=by kernel_rfl
theorem wal_written (h:Lg w col B G s):Calls Tryz.prog 41 #[.pointer (some ⟨G,0,none⟩)] w fun e w'=>e=.returned (.int .i64 (s.wr:Nat))∧Below w.heap.size w w':=by
 obtain⟨wv,h⟩:=h
 have hl:=q0e h
 clear h
 have hf:=log_wr (some ⟨B,0,none⟩) wv (s.wr:Nat) (s.su:Nat) (s.kp:Nat)
 generalize s.wr=r at *
 generalize s.su=u at *
 generalize s.kp=q at *
 go_enter Tryz.func41,Tryz.ntmps41
 go_wp2_with fail
 refine hl.mono ?_
 rintro e w1 ⟨rfl,hb⟩
 have HB:=hid hb
 clear hl hb
 go_wp2_with fail
 go_ret
 exact⟨rfl,HB.out⟩
theorem wal_sure (h:Lg w col B G s):Calls Tryz.prog 37 #[.pointer (some ⟨G,0,none⟩)] w fun e w'=>e=.returned (.int .i64 (s.su:Nat))∧Below w.heap.size w w':=by
 obtain⟨wv,h⟩:=h
 have hl:=q0e h
 clear h
 have hf:=log_su (some ⟨B,0,none⟩) wv (s.wr:Nat) (s.su:Nat) (s.kp:Nat)
 generalize s.wr=r at *
 generalize s.su=u at *
 generalize s.kp=q at *
 go_enter Tryz.func37,Tryz.ntmps37
 go_wp2_with fail
 refine hl.mono ?_
 rintro e w1 ⟨rfl,hb⟩
 have HB:=hid hb
 clear hl hb
 go_wp2_with fail
 go_ret
 exact⟨rfl,HB.out⟩
end
end Go.Proofs.YtfdgnniicjdjdaaGreatDoor
