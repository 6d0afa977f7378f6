import Derived.Test.YtclbkfpbdidaiaaDoorPA40
import Derived.Test.YtclbkfpbdidaiaaDoorPA43
namespace Go.Proofs.YtclbkfpbdidaiaaDoor
open Go.Lib (hid)
set_option maxHeartbeats 4000000
open Go.RowKit Go.ChangeShapes Go.WideShapes
set_option linter.unusedVariables false
set_option linter.unusedSimpArgs false
set_option maxRecDepth 10000
def GivesEn (W:World) (X:Rx) (e:Ending) (w':World):Prop:=Below W.heap.size W w'∧if goodX X=true then ∃ p c,e=.returned (.tuple #[.slice p (z0f X).length c,.int .i64 0])∧Sl w' p (z0f X).length c (z0f X) else e=.returned (.tuple #[.slice none 0 0,.int .i64 1])
theorem rec_write_any (r:Rv) (L:List Ln) (T:List Tk) (M:List Ln) (W:World) (hok:Rxok (r.x L T M)) (hk:kOk r.k=true) (hw:Words W) (hP:RvM W r L T M) (h1:r.ln≤400∧r.tn≤400∧r.wn≤400) (hg:r.k=1→z0s 4 4 (r.pg L T M)=true):Calls Tryd.prog 21 #[.agg (rcs r)] W (z2d W (z0f (r.x L T M))):=by
 rcases kOk_cases hk with h | h | h | h | h | h | h | h | h
 · exact rec_write1 r L T M W hok h hw hP h1 (hg h)
 · exact rec_write2 r L T M W hok h
 · exact rec_write3 r L T M W hok h
 · exact rec_write4 r L T M W hok h
 · exact rec_write5 r L T M W hok h
 · exact rec_write6 r L T M W hok h
 · exact rec_write7 r L T M W hok h
 · exact rec_write8 r L T M W hok h
 · exact rec_write9 r L T M W hok h
theorem rec_encode (r:Rv) (L:List Ln) (T:List Tk) (M:List Ln) (W:World) (hw:Words W) (hP:RvM W r L T M) (hok:Rxok (r.x L T M)) (h1:r.ln≤400∧r.tn≤400∧r.wn≤400):Calls Tryd.prog 31 #[.agg (rcs r)] W (GivesEn W (r.x L T M)):=by
 obtain⟨W1,hW1,hb1⟩:∃ W1,W.alloc (.cells (rcs r) 44)=W1∧Below W.heap.size W W1:=⟨_,rfl,(Below.refl _ _).alloc (Nat.le_refl _) _⟩
 obtain⟨B,hB⟩:∃ B,W.heap.size=B:=⟨_,rfl⟩
 have hrb:=RB.new W r
 rw [hW1,hB] at hrb
 have HX1:=hid hrb
 have HW1:=hid hW1
 have HB1:=hid hb1
 have HRE:=hid hB
 clear hW1 hb1 hB hrb
 have hgd:=rec_good r L T M W1 (hw.later HB1.out) (hP.later HB1.out) hok h1
 have HWR:=hid (fun (h:goodX (r.x L T M)=true) W' (hb:Below W.heap.size W W')=>rec_write_any r L T M W' hok (goodX_kOk h) (hw.later hb) (hP.later hb) h1 (fun hk=>by have:=goodX_prog h;rw [show (r.x L T M).k=1 from hk] at this;exact this))
 clear hw hP hok h1
 cases hg:goodX (r.x L T M) with
 | false =>
  rw [hg] at hgd
  have HG:=hid hg
  clear hg
  go_enter Tryd.func31,Tryd.ntmps31
  go_upto_region 1 with (fail)
  rw [HW1.out,HRE.out]
  go_wp2_with ((with_reducible refine z1f HX1.out ?_ ?_);rfl)
  refine hgd.mono ?_
  rintro e w2 ⟨rfl,h2⟩
  have HF:Hid (GivesEn W (r.x L T M) (.returned (.tuple #[.slice none 0 0,.int .i64 1])) w2):=hid ⟨HB1.out.trans (h2.mono HB1.out.size),by rw [HG.out,if_neg (by decide)]⟩
  clear h2 hgd
  go_wp2_with fail
  go_ret2
  exact HF.out
 | true =>
  rw [hg] at hgd
  have HG:=hid hg
  clear hg
  go_enter Tryd.func31,Tryd.ntmps31
  go_upto_region 1 with (fail)
  rw [HW1.out,HRE.out]
  go_wp2_with ((with_reducible refine z1f HX1.out ?_ ?_);rfl)
  refine hgd.mono ?_
  rintro e w2 ⟨rfl,h2⟩
  have HB2:=hid (HB1.out.trans (h2.mono HB1.out.size))
  have HX2:=hid (HX1.out.later h2)
  clear h2 hgd
  go_wp2_with ((with_reducible refine z1f HX2.out ?_ ?_);rfl)
  refine (HWR.out HG.out w2 HB2.out).mono ?_
  rintro e w3 ⟨p3,c3,rfl,hs3,hb3⟩
  have HF:Hid (GivesEn W (r.x L T M) (.returned (.tuple #[.slice p3 (z0f (r.x L T M)).length c3,.int .i64 0])) w3):=hid ⟨HB2.out.trans (hb3.mono HB2.out.size),by rw [HG.out,if_pos rfl];exact⟨p3,c3,rfl,hs3⟩⟩
  clear hs3 hb3
  generalize (z0f (r.x L T M)).length=n at *
  go_wp2_with fail
  go_ret2
  exact HF.out
def costI (k:Int):Int:=if kOk k=true∧k≠1 then 6+(lenK k:Int) else 0
theorem noP_ok:Pgok noP:=⟨by simp [noP],by simp [noP],by simp [noP],(fun x hx=>by cases hx),(fun x hx=>by cases hx),(fun x hx=>by cases hx),by simp [noP],by simp [noP],by simp [noP],by simp [noP,In64]⟩
def rk (k:Int):Rv:=⟨k,0,0,0,false,0,0,0,0,0,0,0,0,none,0,0,none,0,0,none,0,0,0,0,0,0⟩
theorem rk_ok {k:Int} (h:0≤k∧k≤255):Rxok ((rk k).x [] [] []):=⟨h,by simp [Rv.x,rk],by simp [Rv.x,rk],by simp [Rv.x,rk],by simp [Rv.x,rk,Kok],by simp [Rv.x,rk,In64],by simp [Rv.x,rk],noP_ok⟩
theorem cost_any (k:Int) (W:World):Calls Tryd.prog 12 #[.int .u8 k] W fun e w'=>e=.returned (.int .i64 (costI k))∧Below W.heap.size W w':=by
 by_cases h1:k=1
 case pos =>
  subst h1
  have hpa:=z0v 1 W
  unfold z0u at hpa
  rw [show ptc 1=#[.bool true,.bool false,.bool false,.bool false,.bool false,.bool true] from rfl] at hpa
  go_enter Tryd.func12,Tryd.ntmps12
  go_wp2_with fail
  refine hpa.mono ?_
  rintro e w2 ⟨rfl,h2⟩
  have HB2:=hid h2
  clear h2 hpa
  obtain⟨N2,hN2⟩:∃ n,w2.heap.size=n:=⟨_,rfl⟩
  obtain⟨w3,hwn,hxn,hbn⟩:∃ w3,(w2.alloc (.cells pz 56)).setRow N2 #[.bool true,.bool false,.bool false,.bool false,.bool false,.bool true]=w3∧w3.heap[N2]?=some (.cells #[.bool true,.bool false,.bool false,.bool false,.bool false,.bool true] 56 (0,0))∧Below w2.heap.size w2 w3:=⟨_,rfl,by rw [← hN2];exact setRow_heap _ _ _ _ _ _ (z0b w2 _),below_setRow ((Below.refl _ _).alloc (Nat.le_refl _) _) (by omega) _⟩
  have hx2:=z0b w2 (.cells pz 56)
  rw [hN2] at hx2
  have HPX:=hid hxn
  have HPZ:=hid hx2
  have HBN:=hid hbn
  have HWN:=hid hwn
  have HNN:=hid hN2
  have HS6:Hid ((#[.bool true,.bool false,.bool false,.bool false,.bool false,.bool true]:Array Value).size=6):=hid rfl
  have HA6:Hid ((#[.bool true,.bool false,.bool false,.bool false,.bool false,.bool true]:Array Value).all (·.oneCell')=true):=hid (by simp [Value.oneCell'])
  have p5:w3.cell? ⟨N2,5,none⟩=some (.bool true):=z0a hxn rfl
  clear hx2 hxn hbn hwn hN2
  have HB3:=hid (HB2.out.trans (HBN.out.mono HB2.out.size))
  go_wp2_with ((try rw [HNN.out]);(with_reducible refine z0e #[.bool true,.bool false,.bool false,.bool false,.bool false,.bool true] HS6.out HA6.out HPZ.out ?_ ?_ ?_);rfl;rfl;rw [HWN.out])
  go_ret
  exact⟨rfl,HB3.out⟩
 by_cases h2:k=2
 case pos =>
  subst h2
  clear h1
  have hpa:=z0v 2 W
  unfold z0u at hpa
  rw [show ptc 2=#[.bool true,.bool true,.bool true,.bool false,.bool false,.bool false] from rfl] at hpa
  go_enter Tryd.func12,Tryd.ntmps12
  go_wp2_with fail
  refine hpa.mono ?_
  rintro e w2 ⟨rfl,h2⟩
  have HB2:=hid h2
  clear h2 hpa
  obtain⟨N2,hN2⟩:∃ n,w2.heap.size=n:=⟨_,rfl⟩
  obtain⟨w3,hwn,hxn,hbn⟩:∃ w3,(w2.alloc (.cells pz 56)).setRow N2 #[.bool true,.bool true,.bool true,.bool false,.bool false,.bool false]=w3∧w3.heap[N2]?=some (.cells #[.bool true,.bool true,.bool true,.bool false,.bool false,.bool false] 56 (0,0))∧Below w2.heap.size w2 w3:=⟨_,rfl,by rw [← hN2];exact setRow_heap _ _ _ _ _ _ (z0b w2 _),below_setRow ((Below.refl _ _).alloc (Nat.le_refl _) _) (by omega) _⟩
  have hx2:=z0b w2 (.cells pz 56)
  rw [hN2] at hx2
  have HPX:=hid hxn
  have HPZ:=hid hx2
  have HBN:=hid hbn
  have HWN:=hid hwn
  have HNN:=hid hN2
  have HS6:Hid ((#[.bool true,.bool true,.bool true,.bool false,.bool false,.bool false]:Array Value).size=6):=hid rfl
  have HA6:Hid ((#[.bool true,.bool true,.bool true,.bool false,.bool false,.bool false]:Array Value).all (·.oneCell')=true):=hid (by simp [Value.oneCell'])
  have p5:w3.cell? ⟨N2,5,none⟩=some (.bool false):=z0a hxn rfl
  clear hx2 hxn hbn hwn hN2
  have HB3:=hid (HB2.out.trans (HBN.out.mono HB2.out.size))
  go_wp2_with ((try rw [HNN.out]);(with_reducible refine z0e #[.bool true,.bool true,.bool true,.bool false,.bool false,.bool false] HS6.out HA6.out HPZ.out ?_ ?_ ?_);rfl;rfl;rw [HWN.out])
  refine (rec_write2 (rk 2) [] [] [] w3 (rk_ok (by omega)) rfl).mono ?_
  rintro e w4 ⟨p4,c4,rfl,_,hb4⟩
  have HB4:=hid (HB3.out.trans (hb4.mono HB3.out.size))
  rw [show (z0f ((rk 2).x [] [] [])).length=lenK 2 from z2c (X:=(rk 2).x [] [] []) rfl]
  rw [show lenK 2=11 from rfl]
  clear hb4 p5
  go_wp2_with fail
  refine (z1u _ _).mono ?_
  rintro e w5 ⟨rfl,rfl⟩
  go_wp2_with fail
  go_ret
  exact⟨rfl,HB4.out⟩
 by_cases h3:k=3
 case pos =>
  subst h3
  clear h1
  clear h2
  have hpa:=z0v 3 W
  unfold z0u at hpa
  rw [show ptc 3=#[.bool false,.bool true,.bool false,.bool true,.bool false,.bool false] from rfl] at hpa
  go_enter Tryd.func12,Tryd.ntmps12
  go_wp2_with fail
  refine hpa.mono ?_
  rintro e w2 ⟨rfl,h2⟩
  have HB2:=hid h2
  clear h2 hpa
  obtain⟨N2,hN2⟩:∃ n,w2.heap.size=n:=⟨_,rfl⟩
  obtain⟨w3,hwn,hxn,hbn⟩:∃ w3,(w2.alloc (.cells pz 56)).setRow N2 #[.bool false,.bool true,.bool false,.bool true,.bool false,.bool false]=w3∧w3.heap[N2]?=some (.cells #[.bool false,.bool true,.bool false,.bool true,.bool false,.bool false] 56 (0,0))∧Below w2.heap.size w2 w3:=⟨_,rfl,by rw [← hN2];exact setRow_heap _ _ _ _ _ _ (z0b w2 _),below_setRow ((Below.refl _ _).alloc (Nat.le_refl _) _) (by omega) _⟩
  have hx2:=z0b w2 (.cells pz 56)
  rw [hN2] at hx2
  have HPX:=hid hxn
  have HPZ:=hid hx2
  have HBN:=hid hbn
  have HWN:=hid hwn
  have HNN:=hid hN2
  have HS6:Hid ((#[.bool false,.bool true,.bool false,.bool true,.bool false,.bool false]:Array Value).size=6):=hid rfl
  have HA6:Hid ((#[.bool false,.bool true,.bool false,.bool true,.bool false,.bool false]:Array Value).all (·.oneCell')=true):=hid (by simp [Value.oneCell'])
  have p5:w3.cell? ⟨N2,5,none⟩=some (.bool false):=z0a hxn rfl
  clear hx2 hxn hbn hwn hN2
  have HB3:=hid (HB2.out.trans (HBN.out.mono HB2.out.size))
  go_wp2_with ((try rw [HNN.out]);(with_reducible refine z0e #[.bool false,.bool true,.bool false,.bool true,.bool false,.bool false] HS6.out HA6.out HPZ.out ?_ ?_ ?_);rfl;rfl;rw [HWN.out])
  refine (rec_write3 (rk 3) [] [] [] w3 (rk_ok (by omega)) rfl).mono ?_
  rintro e w4 ⟨p4,c4,rfl,_,hb4⟩
  have HB4:=hid (HB3.out.trans (hb4.mono HB3.out.size))
  rw [show (z0f ((rk 3).x [] [] [])).length=lenK 3 from z2c (X:=(rk 3).x [] [] []) rfl]
  rw [show lenK 3=16 from rfl]
  clear hb4 p5
  go_wp2_with fail
  refine (z1u _ _).mono ?_
  rintro e w5 ⟨rfl,rfl⟩
  go_wp2_with fail
  go_ret
  exact⟨rfl,HB4.out⟩
 by_cases h4:k=4
 case pos =>
  subst h4
  clear h1
  clear h2
  clear h3
  have hpa:=z0v 4 W
  unfold z0u at hpa
  rw [show ptc 4=#[.bool false,.bool true,.bool false,.bool false,.bool false,.bool false] from rfl] at hpa
  go_enter Tryd.func12,Tryd.ntmps12
  go_wp2_with fail
  refine hpa.mono ?_
  rintro e w2 ⟨rfl,h2⟩
  have HB2:=hid h2
  clear h2 hpa
  obtain⟨N2,hN2⟩:∃ n,w2.heap.size=n:=⟨_,rfl⟩
  obtain⟨w3,hwn,hxn,hbn⟩:∃ w3,(w2.alloc (.cells pz 56)).setRow N2 #[.bool false,.bool true,.bool false,.bool false,.bool false,.bool false]=w3∧w3.heap[N2]?=some (.cells #[.bool false,.bool true,.bool false,.bool false,.bool false,.bool false] 56 (0,0))∧Below w2.heap.size w2 w3:=⟨_,rfl,by rw [← hN2];exact setRow_heap _ _ _ _ _ _ (z0b w2 _),below_setRow ((Below.refl _ _).alloc (Nat.le_refl _) _) (by omega) _⟩
  have hx2:=z0b w2 (.cells pz 56)
  rw [hN2] at hx2
  have HPX:=hid hxn
  have HPZ:=hid hx2
  have HBN:=hid hbn
  have HWN:=hid hwn
  have HNN:=hid hN2
  have HS6:Hid ((#[.bool false,.bool true,.bool false,.bool false,.bool false,.bool false]:Array Value).size=6):=hid rfl
  have HA6:Hid ((#[.bool false,.bool true,.bool false,.bool false,.bool false,.bool false]:Array Value).all (·.oneCell')=true):=hid (by simp [Value.oneCell'])
  have p5:w3.cell? ⟨N2,5,none⟩=some (.bool false):=z0a hxn rfl
  clear hx2 hxn hbn hwn hN2
  have HB3:=hid (HB2.out.trans (HBN.out.mono HB2.out.size))
  go_wp2_with ((try rw [HNN.out]);(with_reducible refine z0e #[.bool false,.bool true,.bool false,.bool false,.bool false,.bool false] HS6.out HA6.out HPZ.out ?_ ?_ ?_);rfl;rfl;rw [HWN.out])
  refine (rec_write4 (rk 4) [] [] [] w3 (rk_ok (by omega)) rfl).mono ?_
  rintro e w4 ⟨p4,c4,rfl,_,hb4⟩
  have HB4:=hid (HB3.out.trans (hb4.mono HB3.out.size))
  rw [show (z0f ((rk 4).x [] [] [])).length=lenK 4 from z2c (X:=(rk 4).x [] [] []) rfl]
  rw [show lenK 4=5 from rfl]
  clear hb4 p5
  go_wp2_with fail
  refine (z1u _ _).mono ?_
  rintro e w5 ⟨rfl,rfl⟩
  go_wp2_with fail
  go_ret
  exact⟨rfl,HB4.out⟩
 by_cases h5:k=5
 case pos =>
  subst h5
  clear h1
  clear h2
  clear h3
  clear h4
  have hpa:=z0v 5 W
  unfold z0u at hpa
  rw [show ptc 5=#[.bool false,.bool true,.bool false,.bool false,.bool false,.bool false] from rfl] at hpa
  go_enter Tryd.func12,Tryd.ntmps12
  go_wp2_with fail
  refine hpa.mono ?_
  rintro e w2 ⟨rfl,h2⟩
  have HB2:=hid h2
  clear h2 hpa
  obtain⟨N2,hN2⟩:∃ n,w2.heap.size=n:=⟨_,rfl⟩
  obtain⟨w3,hwn,hxn,hbn⟩:∃ w3,(w2.alloc (.cells pz 56)).setRow N2 #[.bool false,.bool true,.bool false,.bool false,.bool false,.bool false]=w3∧w3.heap[N2]?=some (.cells #[.bool false,.bool true,.bool false,.bool false,.bool false,.bool false] 56 (0,0))∧Below w2.heap.size w2 w3:=⟨_,rfl,by rw [← hN2];exact setRow_heap _ _ _ _ _ _ (z0b w2 _),below_setRow ((Below.refl _ _).alloc (Nat.le_refl _) _) (by omega) _⟩
  have hx2:=z0b w2 (.cells pz 56)
  rw [hN2] at hx2
  have HPX:=hid hxn
  have HPZ:=hid hx2
  have HBN:=hid hbn
  have HWN:=hid hwn
  have HNN:=hid hN2
  have HS6:Hid ((#[.bool false,.bool true,.bool false,.bool false,.bool false,.bool false]:Array Value).size=6):=hid rfl
  have HA6:Hid ((#[.bool false,.bool true,.bool false,.bool false,.bool false,.bool false]:Array Value).all (·.oneCell')=true):=hid (by simp [Value.oneCell'])
  have p5:w3.cell? ⟨N2,5,none⟩=some (.bool false):=z0a hxn rfl
  clear hx2 hxn hbn hwn hN2
  have HB3:=hid (HB2.out.trans (HBN.out.mono HB2.out.size))
  go_wp2_with ((try rw [HNN.out]);(with_reducible refine z0e #[.bool false,.bool true,.bool false,.bool false,.bool false,.bool false] HS6.out HA6.out HPZ.out ?_ ?_ ?_);rfl;rfl;rw [HWN.out])
  refine (rec_write5 (rk 5) [] [] [] w3 (rk_ok (by omega)) rfl).mono ?_
  rintro e w4 ⟨p4,c4,rfl,_,hb4⟩
  have HB4:=hid (HB3.out.trans (hb4.mono HB3.out.size))
  rw [show (z0f ((rk 5).x [] [] [])).length=lenK 5 from z2c (X:=(rk 5).x [] [] []) rfl]
  rw [show lenK 5=5 from rfl]
  clear hb4 p5
  go_wp2_with fail
  refine (z1u _ _).mono ?_
  rintro e w5 ⟨rfl,rfl⟩
  go_wp2_with fail
  go_ret
  exact⟨rfl,HB4.out⟩
 by_cases h6:k=6
 case pos =>
  subst h6
  clear h1
  clear h2
  clear h3
  clear h4
  clear h5
  have hpa:=z0v 6 W
  unfold z0u at hpa
  rw [show ptc 6=#[.bool false,.bool true,.bool false,.bool true,.bool false,.bool false] from rfl] at hpa
  go_enter Tryd.func12,Tryd.ntmps12
  go_wp2_with fail
  refine hpa.mono ?_
  rintro e w2 ⟨rfl,h2⟩
  have HB2:=hid h2
  clear h2 hpa
  obtain⟨N2,hN2⟩:∃ n,w2.heap.size=n:=⟨_,rfl⟩
  obtain⟨w3,hwn,hxn,hbn⟩:∃ w3,(w2.alloc (.cells pz 56)).setRow N2 #[.bool false,.bool true,.bool false,.bool true,.bool false,.bool false]=w3∧w3.heap[N2]?=some (.cells #[.bool false,.bool true,.bool false,.bool true,.bool false,.bool false] 56 (0,0))∧Below w2.heap.size w2 w3:=⟨_,rfl,by rw [← hN2];exact setRow_heap _ _ _ _ _ _ (z0b w2 _),below_setRow ((Below.refl _ _).alloc (Nat.le_refl _) _) (by omega) _⟩
  have hx2:=z0b w2 (.cells pz 56)
  rw [hN2] at hx2
  have HPX:=hid hxn
  have HPZ:=hid hx2
  have HBN:=hid hbn
  have HWN:=hid hwn
  have HNN:=hid hN2
  have HS6:Hid ((#[.bool false,.bool true,.bool false,.bool true,.bool false,.bool false]:Array Value).size=6):=hid rfl
  have HA6:Hid ((#[.bool false,.bool true,.bool false,.bool true,.bool false,.bool false]:Array Value).all (·.oneCell')=true):=hid (by simp [Value.oneCell'])
  have p5:w3.cell? ⟨N2,5,none⟩=some (.bool false):=z0a hxn rfl
  clear hx2 hxn hbn hwn hN2
  have HB3:=hid (HB2.out.trans (HBN.out.mono HB2.out.size))
  go_wp2_with ((try rw [HNN.out]);(with_reducible refine z0e #[.bool false,.bool true,.bool false,.bool true,.bool false,.bool false] HS6.out HA6.out HPZ.out ?_ ?_ ?_);rfl;rfl;rw [HWN.out])
  refine (rec_write6 (rk 6) [] [] [] w3 (rk_ok (by omega)) rfl).mono ?_
  rintro e w4 ⟨p4,c4,rfl,_,hb4⟩
  have HB4:=hid (HB3.out.trans (hb4.mono HB3.out.size))
  rw [show (z0f ((rk 6).x [] [] [])).length=lenK 6 from z2c (X:=(rk 6).x [] [] []) rfl]
  rw [show lenK 6=16 from rfl]
  clear hb4 p5
  go_wp2_with fail
  refine (z1u _ _).mono ?_
  rintro e w5 ⟨rfl,rfl⟩
  go_wp2_with fail
  go_ret
  exact⟨rfl,HB4.out⟩
 by_cases h7:k=7
 case pos =>
  subst h7
  clear h1
  clear h2
  clear h3
  clear h4
  clear h5
  clear h6
  have hpa:=z0v 7 W
  unfold z0u at hpa
  rw [show ptc 7=#[.bool false,.bool true,.bool false,.bool false,.bool false,.bool false] from rfl] at hpa
  go_enter Tryd.func12,Tryd.ntmps12
  go_wp2_with fail
  refine hpa.mono ?_
  rintro e w2 ⟨rfl,h2⟩
  have HB2:=hid h2
  clear h2 hpa
  obtain⟨N2,hN2⟩:∃ n,w2.heap.size=n:=⟨_,rfl⟩
  obtain⟨w3,hwn,hxn,hbn⟩:∃ w3,(w2.alloc (.cells pz 56)).setRow N2 #[.bool false,.bool true,.bool false,.bool false,.bool false,.bool false]=w3∧w3.heap[N2]?=some (.cells #[.bool false,.bool true,.bool false,.bool false,.bool false,.bool false] 56 (0,0))∧Below w2.heap.size w2 w3:=⟨_,rfl,by rw [← hN2];exact setRow_heap _ _ _ _ _ _ (z0b w2 _),below_setRow ((Below.refl _ _).alloc (Nat.le_refl _) _) (by omega) _⟩
  have hx2:=z0b w2 (.cells pz 56)
  rw [hN2] at hx2
  have HPX:=hid hxn
  have HPZ:=hid hx2
  have HBN:=hid hbn
  have HWN:=hid hwn
  have HNN:=hid hN2
  have HS6:Hid ((#[.bool false,.bool true,.bool false,.bool false,.bool false,.bool false]:Array Value).size=6):=hid rfl
  have HA6:Hid ((#[.bool false,.bool true,.bool false,.bool false,.bool false,.bool false]:Array Value).all (·.oneCell')=true):=hid (by simp [Value.oneCell'])
  have p5:w3.cell? ⟨N2,5,none⟩=some (.bool false):=z0a hxn rfl
  clear hx2 hxn hbn hwn hN2
  have HB3:=hid (HB2.out.trans (HBN.out.mono HB2.out.size))
  go_wp2_with ((try rw [HNN.out]);(with_reducible refine z0e #[.bool false,.bool true,.bool false,.bool false,.bool false,.bool false] HS6.out HA6.out HPZ.out ?_ ?_ ?_);rfl;rfl;rw [HWN.out])
  refine (rec_write7 (rk 7) [] [] [] w3 (rk_ok (by omega)) rfl).mono ?_
  rintro e w4 ⟨p4,c4,rfl,_,hb4⟩
  have HB4:=hid (HB3.out.trans (hb4.mono HB3.out.size))
  rw [show (z0f ((rk 7).x [] [] [])).length=lenK 7 from z2c (X:=(rk 7).x [] [] []) rfl]
  rw [show lenK 7=5 from rfl]
  clear hb4 p5
  go_wp2_with fail
  refine (z1u _ _).mono ?_
  rintro e w5 ⟨rfl,rfl⟩
  go_wp2_with fail
  go_ret
  exact⟨rfl,HB4.out⟩
 by_cases h8:k=8
 case pos =>
  subst h8
  clear h1
  clear h2
  clear h3
  clear h4
  clear h5
  clear h6
  clear h7
  have hpa:=z0v 8 W
  unfold z0u at hpa
  rw [show ptc 8=#[.bool true,.bool false,.bool false,.bool false,.bool false,.bool false] from rfl] at hpa
  go_enter Tryd.func12,Tryd.ntmps12
  go_wp2_with fail
  refine hpa.mono ?_
  rintro e w2 ⟨rfl,h2⟩
  have HB2:=hid h2
  clear h2 hpa
  obtain⟨N2,hN2⟩:∃ n,w2.heap.size=n:=⟨_,rfl⟩
  obtain⟨w3,hwn,hxn,hbn⟩:∃ w3,(w2.alloc (.cells pz 56)).setRow N2 #[.bool true,.bool false,.bool false,.bool false,.bool false,.bool false]=w3∧w3.heap[N2]?=some (.cells #[.bool true,.bool false,.bool false,.bool false,.bool false,.bool false] 56 (0,0))∧Below w2.heap.size w2 w3:=⟨_,rfl,by rw [← hN2];exact setRow_heap _ _ _ _ _ _ (z0b w2 _),below_setRow ((Below.refl _ _).alloc (Nat.le_refl _) _) (by omega) _⟩
  have hx2:=z0b w2 (.cells pz 56)
  rw [hN2] at hx2
  have HPX:=hid hxn
  have HPZ:=hid hx2
  have HBN:=hid hbn
  have HWN:=hid hwn
  have HNN:=hid hN2
  have HS6:Hid ((#[.bool true,.bool false,.bool false,.bool false,.bool false,.bool false]:Array Value).size=6):=hid rfl
  have HA6:Hid ((#[.bool true,.bool false,.bool false,.bool false,.bool false,.bool false]:Array Value).all (·.oneCell')=true):=hid (by simp [Value.oneCell'])
  have p5:w3.cell? ⟨N2,5,none⟩=some (.bool false):=z0a hxn rfl
  clear hx2 hxn hbn hwn hN2
  have HB3:=hid (HB2.out.trans (HBN.out.mono HB2.out.size))
  go_wp2_with ((try rw [HNN.out]);(with_reducible refine z0e #[.bool true,.bool false,.bool false,.bool false,.bool false,.bool false] HS6.out HA6.out HPZ.out ?_ ?_ ?_);rfl;rfl;rw [HWN.out])
  refine (rec_write8 (rk 8) [] [] [] w3 (rk_ok (by omega)) rfl).mono ?_
  rintro e w4 ⟨p4,c4,rfl,_,hb4⟩
  have HB4:=hid (HB3.out.trans (hb4.mono HB3.out.size))
  rw [show (z0f ((rk 8).x [] [] [])).length=lenK 8 from z2c (X:=(rk 8).x [] [] []) rfl]
  rw [show lenK 8=5 from rfl]
  clear hb4 p5
  go_wp2_with fail
  refine (z1u _ _).mono ?_
  rintro e w5 ⟨rfl,rfl⟩
  go_wp2_with fail
  go_ret
  exact⟨rfl,HB4.out⟩
 by_cases h9:k=9
 case pos =>
  subst h9
  clear h1
  clear h2
  clear h3
  clear h4
  clear h5
  clear h6
  clear h7
  clear h8
  have hpa:=z0v 9 W
  unfold z0u at hpa
  rw [show ptc 9=#[.bool true,.bool false,.bool false,.bool false,.bool true,.bool false] from rfl] at hpa
  go_enter Tryd.func12,Tryd.ntmps12
  go_wp2_with fail
  refine hpa.mono ?_
  rintro e w2 ⟨rfl,h2⟩
  have HB2:=hid h2
  clear h2 hpa
  obtain⟨N2,hN2⟩:∃ n,w2.heap.size=n:=⟨_,rfl⟩
  obtain⟨w3,hwn,hxn,hbn⟩:∃ w3,(w2.alloc (.cells pz 56)).setRow N2 #[.bool true,.bool false,.bool false,.bool false,.bool true,.bool false]=w3∧w3.heap[N2]?=some (.cells #[.bool true,.bool false,.bool false,.bool false,.bool true,.bool false] 56 (0,0))∧Below w2.heap.size w2 w3:=⟨_,rfl,by rw [← hN2];exact setRow_heap _ _ _ _ _ _ (z0b w2 _),below_setRow ((Below.refl _ _).alloc (Nat.le_refl _) _) (by omega) _⟩
  have hx2:=z0b w2 (.cells pz 56)
  rw [hN2] at hx2
  have HPX:=hid hxn
  have HPZ:=hid hx2
  have HBN:=hid hbn
  have HWN:=hid hwn
  have HNN:=hid hN2
  have HS6:Hid ((#[.bool true,.bool false,.bool false,.bool false,.bool true,.bool false]:Array Value).size=6):=hid rfl
  have HA6:Hid ((#[.bool true,.bool false,.bool false,.bool false,.bool true,.bool false]:Array Value).all (·.oneCell')=true):=hid (by simp [Value.oneCell'])
  have p5:w3.cell? ⟨N2,5,none⟩=some (.bool false):=z0a hxn rfl
  clear hx2 hxn hbn hwn hN2
  have HB3:=hid (HB2.out.trans (HBN.out.mono HB2.out.size))
  go_wp2_with ((try rw [HNN.out]);(with_reducible refine z0e #[.bool true,.bool false,.bool false,.bool false,.bool true,.bool false] HS6.out HA6.out HPZ.out ?_ ?_ ?_);rfl;rfl;rw [HWN.out])
  refine (rec_write9 (rk 9) [] [] [] w3 (rk_ok (by omega)) rfl).mono ?_
  rintro e w4 ⟨p4,c4,rfl,_,hb4⟩
  have HB4:=hid (HB3.out.trans (hb4.mono HB3.out.size))
  rw [show (z0f ((rk 9).x [] [] [])).length=lenK 9 from z2c (X:=(rk 9).x [] [] []) rfl]
  rw [show lenK 9=6 from rfl]
  clear hb4 p5
  go_wp2_with fail
  refine (z1u _ _).mono ?_
  rintro e w5 ⟨rfl,rfl⟩
  go_wp2_with fail
  go_ret
  exact⟨rfl,HB4.out⟩
 have e1:(k==1)=false:=by simpa using h1
 have e2:(k==2)=false:=by simpa using h2
 have e3:(k==3)=false:=by simpa using h3
 have e4:(k==4)=false:=by simpa using h4
 have e5:(k==5)=false:=by simpa using h5
 have e6:(k==6)=false:=by simpa using h6
 have e7:(k==7)=false:=by simpa using h7
 have e8:(k==8)=false:=by simpa using h8
 have e9:(k==9)=false:=by simpa using h9
 have HK:Hid (ptc k=pz∧kOk k=false):=hid ⟨by unfold ptc kS kT kB kA kO kP;rw [e1,e2,e3,e4,e5,e6,e7,e8,e9];rfl,by unfold kOk;rw [e1,e2,e3,e4,e5,e6,e7,e8,e9];rfl⟩
 have HC:Hid (costI k=0):=hid (if_neg (by rw [HK.out.2];simp))
 clear h1 e1 h2 e2 h3 e3 h4 e4 h5 e5 h6 e6 h7 e7 h8 e8 h9 e9
 have hpa:=z0v k W
 unfold z0u at hpa
 rw [HK.out.1,HK.out.2] at hpa
 go_enter Tryd.func12,Tryd.ntmps12
 go_wp2_with fail
 refine hpa.mono ?_
 rintro e w2 ⟨rfl,h2⟩
 have HB2:=hid h2
 clear h2 hpa
 obtain⟨N2,hN2⟩:∃ n,w2.heap.size=n:=⟨_,rfl⟩
 obtain⟨w3,hwn,hxn,hbn⟩:∃ w3,(w2.alloc (.cells pz 56)).setRow N2 #[.bool false,.bool false,.bool false,.bool false,.bool false,.bool false]=w3∧w3.heap[N2]?=some (.cells #[.bool false,.bool false,.bool false,.bool false,.bool false,.bool false] 56 (0,0))∧Below w2.heap.size w2 w3:=⟨_,rfl,by rw [← hN2];exact setRow_heap _ _ _ _ _ _ (z0b w2 _),below_setRow ((Below.refl _ _).alloc (Nat.le_refl _) _) (by omega) _⟩
 have hx2:=z0b w2 (.cells pz 56)
 rw [hN2] at hx2
 have HPX:=hid hxn
 have HPZ:=hid hx2
 have HBN:=hid hbn
 have HWN:=hid hwn
 have HNN:=hid hN2
 have HS6:Hid ((#[.bool false,.bool false,.bool false,.bool false,.bool false,.bool false]:Array Value).size=6):=hid rfl
 have HA6:Hid ((#[.bool false,.bool false,.bool false,.bool false,.bool false,.bool false]:Array Value).all (·.oneCell')=true):=hid (by simp [Value.oneCell'])
 have p5:w3.cell? ⟨N2,5,none⟩=some (.bool false):=z0a hxn rfl
 clear hx2 hxn hbn hwn hN2
 have HB3:=hid (HB2.out.trans (HBN.out.mono HB2.out.size))
 go_wp2_with ((try rw [HNN.out]);(with_reducible refine z0e #[.bool false,.bool false,.bool false,.bool false,.bool false,.bool false] HS6.out HA6.out HPZ.out ?_ ?_ ?_);rfl;rfl;rw [HWN.out])
 go_ret
 exact⟨by rw [HC.out];rfl,HB3.out⟩
def sizeX (X:Rx):Int:=if goodX X=true then 6+((z0f X).length:Int) else 0
theorem good_len {X:Rx} (h:goodX X=true):5≤(z0f X).length∧(z0f X).length≤407:=by
 have hk:=goodX_kOk h
 have hp:=goodX_prog h
 rw [z2c hk]
 rcases kOk_cases hk with h | h | h | h | h | h | h | h | h <;> rw [h]
 · rw [h] at hp
   have hp':z0s 4 4 X.pg=true:=hp
   have:=pg_few hp'
   simp [lenK];omega
 all_goals simp [lenK]
theorem size_x (r:Rv) (L:List Ln) (T:List Tk) (M:List Ln) (W:World) (hw:Words W) (hP:RvM W r L T M) (hok:Rxok (r.x L T M)) (h1:r.ln≤400∧r.tn≤400∧r.wn≤400):Calls Tryd.prog 17 #[.agg (rcs r)] W fun e w'=>e=.returned (.int .i64 (sizeX (r.x L T M)))∧Below W.heap.size W w':=by
 obtain⟨W1,hW1,hb1⟩:∃ W1,W.alloc (.cells (rcs r) 44)=W1∧Below W.heap.size W W1:=⟨_,rfl,(Below.refl _ _).alloc (Nat.le_refl _) _⟩
 obtain⟨B,hB⟩:∃ B,W.heap.size=B:=⟨_,rfl⟩
 have hrb:=RB.new W r
 rw [hW1,hB] at hrb
 have HX1:=hid hrb
 have HW1:=hid hW1
 have HB1:=hid hb1
 have HRE:=hid hB
 clear hW1 hb1 hB hrb
 have hen:=rec_encode r L T M W1 (hw.later HB1.out) (hP.later HB1.out) hok h1
 clear hw hP hok h1
 cases hg:goodX (r.x L T M) with
 | false =>
  have HG:Hid (sizeX (r.x L T M)=0):=hid (by unfold sizeX;rw [hg];rfl)
  have HGD:=hid hg
  clear hg
  go_enter Tryd.func17,Tryd.ntmps17
  go_upto_region 1 with (fail)
  rw [HW1.out,HRE.out]
  go_wp2_with ((with_reducible refine z1f HX1.out ?_ ?_);rfl)
  refine hen.mono ?_
  rintro e w2 ⟨hb2,hy⟩
  rw [HGD.out,if_neg (by decide)] at hy
  subst hy
  have HB2:=hid (HB1.out.trans (hb2.mono HB1.out.size))
  clear hb2 hen
  go_wp2_with fail
  refine (z1u _ _).mono ?_
  rintro e w3 ⟨rfl,rfl⟩
  go_wp2_with fail
  go_ret
  exact⟨by rw [HG.out];rfl,HB2.out⟩
 | true =>
  have hl:=good_len hg
  have HG:Hid (sizeX (r.x L T M)=6+((z0f (r.x L T M)).length:Int)):=hid (if_pos hg)
  have HGD:=hid hg
  clear hg
  go_enter Tryd.func17,Tryd.ntmps17
  go_upto_region 1 with (fail)
  rw [HW1.out,HRE.out]
  go_wp2_with ((with_reducible refine z1f HX1.out ?_ ?_);rfl)
  refine hen.mono ?_
  rintro e w2 ⟨hb2,hy⟩
  rw [HGD.out,if_pos rfl] at hy
  obtain⟨p2,c2,rfl,_⟩:=hy
  have HB2:=hid (HB1.out.trans (hb2.mono HB1.out.size))
  clear hb2 hen
  generalize (z0f (r.x L T M)).length=n at *
  have HL:=hid hl
  clear hl
  go_wp2_with fail
  refine (z1u _ _).mono ?_
  rintro e w3 ⟨rfl,rfl⟩
  rw [show sizeI (n:Int)=6+(n:Int) from if_neg (by have:=HL.out;omega)]
  go_wp2_with fail
  go_ret
  exact⟨by rw [HG.out];rfl,HB2.out⟩
end Go.Proofs.YtclbkfpbdidaiaaDoor
