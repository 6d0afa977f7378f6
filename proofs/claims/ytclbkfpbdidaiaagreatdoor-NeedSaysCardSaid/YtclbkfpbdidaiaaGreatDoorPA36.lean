import Derived.Test.YtclbkfpbdidaiaaGreatDoorPA35
import Derived.Test.YtclbkfpbdidaiaaGreatDoorPA41
namespace Go.Proofs.YtclbkfpbdidaiaaGreatDoor
open Go.Lib (hid)
set_option maxHeartbeats 8000000
open Go.RowKit Go.ChangeShapes Go.WideShapes
set_option linter.unusedVariables false
set_option linter.unusedSimpArgs false
set_option maxRecDepth 10000
def GivesEn (W:World) (X:Rx) (e:Ending) (w':World):Prop:=Below W.heap.size W w'∧if z1n X=true then ∃ p c,e=.returned (.tuple #[.slice p (z0l X).length c,.int .i64 0])∧Sl w' p (z0l X).length c (z0l X) else e=.returned (.tuple #[.slice none 0 0,.int .i64 1])
theorem rec_write_any (r:Rv) (L:List Ln) (T:List Tk) (M:List Ln) (W:World) (hok:Rxok (r.x L T M)) (hk:kOk r.k=true) (hw:Words W) (hP:RvM W r L T M) (h1:r.ln≤400∧r.tn≤400∧r.wn≤400) (hg:r.k=1→z0p 4 4 (r.pg L T M)=true):Calls Tryz.prog 78 #[.agg (rcs r)] W (GivesB W (z0l (r.x L T M))):=by
 rcases kOk_cases hk with h | h | h | h | h | h | h | h | h
 · exact rec_write1 r L T M W hok h hw hP h1 (hg h)
 · exact rec_write2 r L T M W hok h
 · exact rec_write3 r L T M W hok h
 · exact rec_write4 r L T M W hok h
 · exact rec_write5 r L T M W hok h
 · exact rec_write6 r L T M W hok h
 · exact rec_write7 r L T M W hok h
 · exact rec_write8 r L T M W hok h
 · exact rec_write9 r L T M W hok h
theorem rec_encode (r:Rv) (L:List Ln) (T:List Tk) (M:List Ln) (W:World) (hw:Words W) (hP:RvM W r L T M) (hok:Rxok (r.x L T M)) (h1:r.ln≤400∧r.tn≤400∧r.wn≤400):Calls Tryz.prog 61 #[.agg (rcs r)] W (GivesEn W (r.x L T M)):=by
 obtain⟨W1,hW1,hb1⟩:∃ W1,W.alloc (.cells (rcs r) 42)=W1∧Below W.heap.size W W1:=⟨_,rfl,(Below.refl _ _).alloc (Nat.le_refl _) _⟩
 obtain⟨B,hB⟩:∃ B,W.heap.size=B:=⟨_,rfl⟩
 have hrb:=RB.new W r
 rw [hW1,hB] at hrb
 have HX1:=hid hrb
 have HW1:=hid hW1
 have HB1:=hid hb1
 have HRE:=hid hB
 clear hW1 hb1 hB hrb
 have hgd:=rec_good r L T M W1 (hw.later HB1.out) (hP.later HB1.out) hok h1
 have HWR:=hid (fun (h:z1n (r.x L T M)=true) W' (hb:Below W.heap.size W W')=>rec_write_any r L T M W' hok (goodX_kOk h) (hw.later hb) (hP.later hb) h1 (fun hk=>by have:=goodX_prog h;rw [show (r.x L T M).k=1 from hk] at this;exact this))
 clear hw hP hok h1
 cases hg:z1n (r.x L T M) with
 | false =>
  rw [hg] at hgd
  have HG:=hid hg
  clear hg
  go_enter Tryz.func61,Tryz.ntmps61
  go_upto_region 1 with (fail)
  rw [HW1.out,HRE.out]
  go_wp2_with ((with_reducible refine z1l HX1.out ?_ ?_);rfl)
  refine hgd.mono ?_
  rintro e w2 ⟨rfl,h2⟩
  have HF:Hid (GivesEn W (r.x L T M) (.returned (.tuple #[.slice none 0 0,.int .i64 1])) w2):=hid ⟨HB1.out.trans (h2.mono HB1.out.size),by rw [HG.out,if_neg (by decide)]⟩
  clear h2 hgd
  go_wp2_with fail
  go_ret2
  exact HF.out
 | true =>
  rw [hg] at hgd
  have HG:=hid hg
  clear hg
  go_enter Tryz.func61,Tryz.ntmps61
  go_upto_region 1 with (fail)
  rw [HW1.out,HRE.out]
  go_wp2_with ((with_reducible refine z1l HX1.out ?_ ?_);rfl)
  refine hgd.mono ?_
  rintro e w2 ⟨rfl,h2⟩
  have HB2:=hid (HB1.out.trans (h2.mono HB1.out.size))
  have HX2:=hid (HX1.out.later h2)
  clear h2 hgd
  go_wp2_with ((with_reducible refine z1l HX2.out ?_ ?_);rfl)
  refine (HWR.out HG.out w2 HB2.out).mono ?_
  rintro e w3 ⟨p3,c3,rfl,hs3,hb3⟩
  have HF:Hid (GivesEn W (r.x L T M) (.returned (.tuple #[.slice p3 (z0l (r.x L T M)).length c3,.int .i64 0])) w3):=hid ⟨HB2.out.trans (hb3.mono HB2.out.size),by rw [HG.out,if_pos rfl];exact⟨p3,c3,rfl,hs3⟩⟩
  clear hs3 hb3
  generalize (z0l (r.x L T M)).length=n at *
  go_wp2_with fail
  go_ret2
  exact HF.out
def costI (k:Int):Int:=if kOk k=true∧k≠1 then 6+(lenK k:Int) else 0
theorem noP_ok:Pgok noP:=⟨by simp [noP],by simp [noP],by simp [noP],(fun x hx=>by cases hx),(fun x hx=>by cases hx),(fun x hx=>by cases hx),by simp [noP],by simp [noP],by simp [noP],by simp [noP,In64]⟩
def rk (k:Int):Rv:=⟨k,0,0,0,false,0,0,0,0,0,0,0,0,none,0,0,none,0,0,none,0,0,0,0,0,0⟩
theorem rk_ok {k:Int} (h:0≤k∧k≤255):Rxok ((rk k).x [] [] []):=⟨h,by simp [Rv.x,rk],by simp [Rv.x,rk],by simp [Rv.x,rk],by simp [Rv.x,rk,Kok],by simp [Rv.x,rk,In64],by simp [Rv.x,rk],noP_ok⟩
theorem cost_any (k:Int) (W:World):Calls Tryz.prog 45 #[.int .u8 k] W fun e w'=>e=.returned (.int .i64 (costI k))∧Below W.heap.size W w':=by
 by_cases h1:k=1
 case pos =>
  subst h1
  have hpa:=z1i 1 W
  unfold z1h at hpa
  rw [show ptc 1=#[.bool true,.bool false,.bool false,.bool false,.bool false,.bool true] from rfl] at hpa
  go_enter Tryz.func45,Tryz.ntmps45
  go_wp2_with fail
  refine hpa.mono ?_
  rintro e w2 ⟨rfl,h2⟩
  have HB2:=hid h2
  clear h2 hpa
  obtain⟨N2,hN2⟩:∃ n,w2.heap.size=n:=⟨_,rfl⟩
  obtain⟨w3,hwn,hxn,hbn⟩:∃ w3,(w2.alloc (.cells pz 117)).setRow N2 #[.bool true,.bool false,.bool false,.bool false,.bool false,.bool true]=w3∧w3.heap[N2]?=some (.cells #[.bool true,.bool false,.bool false,.bool false,.bool false,.bool true] 117 (0,0))∧Below w2.heap.size w2 w3:=⟨_,rfl,by rw [← hN2];exact setRow_heap _ _ _ _ _ _ (z0c w2 _),below_setRow ((Below.refl _ _).alloc (Nat.le_refl _) _) (by omega) _⟩
  have hx2:=z0c w2 (.cells pz 117)
  rw [hN2] at hx2
  have HPX:=hid hxn
  have HPZ:=hid hx2
  have HBN:=hid hbn
  have HWN:=hid hwn
  have HNN:=hid hN2
  have HS6:Hid ((#[.bool true,.bool false,.bool false,.bool false,.bool false,.bool true]:Array Value).size=6):=hid rfl
  have HA6:Hid ((#[.bool true,.bool false,.bool false,.bool false,.bool false,.bool true]:Array Value).all (·.oneCell')=true):=hid (by simp [Value.oneCell'])
  have p5:w3.cell? ⟨N2,5,none⟩=some (.bool true):=z0a hxn rfl
  clear hx2 hxn hbn hwn hN2
  have HB3:=hid (HB2.out.trans (HBN.out.mono HB2.out.size))
  go_wp2_with ((try rw [HNN.out]);(with_reducible refine z0j #[.bool true,.bool false,.bool false,.bool false,.bool false,.bool true] HS6.out HA6.out HPZ.out ?_ ?_ ?_);rfl;rfl;rw [HWN.out])
  go_ret
  exact⟨rfl,HB3.out⟩
 by_cases h2:k=2
 case pos =>
  subst h2
  clear h1
  have hpa:=z1i 2 W
  unfold z1h at hpa
  rw [show ptc 2=#[.bool true,.bool true,.bool true,.bool false,.bool false,.bool false] from rfl] at hpa
  go_enter Tryz.func45,Tryz.ntmps45
  go_wp2_with fail
  refine hpa.mono ?_
  rintro e w2 ⟨rfl,h2⟩
  have HB2:=hid h2
  clear h2 hpa
  obtain⟨N2,hN2⟩:∃ n,w2.heap.size=n:=⟨_,rfl⟩
  obtain⟨w3,hwn,hxn,hbn⟩:∃ w3,(w2.alloc (.cells pz 117)).setRow N2 #[.bool true,.bool true,.bool true,.bool false,.bool false,.bool false]=w3∧w3.heap[N2]?=some (.cells #[.bool true,.bool true,.bool true,.bool false,.bool false,.bool false] 117 (0,0))∧Below w2.heap.size w2 w3:=⟨_,rfl,by rw [← hN2];exact setRow_heap _ _ _ _ _ _ (z0c w2 _),below_setRow ((Below.refl _ _).alloc (Nat.le_refl _) _) (by omega) _⟩
  have hx2:=z0c w2 (.cells pz 117)
  rw [hN2] at hx2
  have HPX:=hid hxn
  have HPZ:=hid hx2
  have HBN:=hid hbn
  have HWN:=hid hwn
  have HNN:=hid hN2
  have HS6:Hid ((#[.bool true,.bool true,.bool true,.bool false,.bool false,.bool false]:Array Value).size=6):=hid rfl
  have HA6:Hid ((#[.bool true,.bool true,.bool true,.bool false,.bool false,.bool false]:Array Value).all (·.oneCell')=true):=hid (by simp [Value.oneCell'])
  have p5:w3.cell? ⟨N2,5,none⟩=some (.bool false):=z0a hxn rfl
  clear hx2 hxn hbn hwn hN2
  have HB3:=hid (HB2.out.trans (HBN.out.mono HB2.out.size))
  go_wp2_with ((try rw [HNN.out]);(with_reducible refine z0j #[.bool true,.bool true,.bool true,.bool false,.bool false,.bool false] HS6.out HA6.out HPZ.out ?_ ?_ ?_);rfl;rfl;rw [HWN.out])
  refine (rec_write2 (rk 2) [] [] [] w3 (rk_ok (by omega)) rfl).mono ?_
  rintro e w4 ⟨p4,c4,rfl,_,hb4⟩
  have HB4:=hid (HB3.out.trans (hb4.mono HB3.out.size))
  rw [show (z0l ((rk 2).x [] [] [])).length=lenK 2 from bytes_len (X:=(rk 2).x [] [] []) rfl]
  rw [show lenK 2=11 from rfl]
  clear hb4 p5
  go_wp2_with fail
  refine (fsize_any _ _).mono ?_
  rintro e w5 ⟨rfl,rfl⟩
  go_wp2_with fail
  go_ret
  exact⟨rfl,HB4.out⟩
 by_cases h3:k=3
 case pos =>
  subst h3
  clear h1
  clear h2
  have hpa:=z1i 3 W
  unfold z1h at hpa
  rw [show ptc 3=#[.bool false,.bool true,.bool false,.bool true,.bool false,.bool false] from rfl] at hpa
  go_enter Tryz.func45,Tryz.ntmps45
  go_wp2_with fail
  refine hpa.mono ?_
  rintro e w2 ⟨rfl,h2⟩
  have HB2:=hid h2
  clear h2 hpa
  obtain⟨N2,hN2⟩:∃ n,w2.heap.size=n:=⟨_,rfl⟩
  obtain⟨w3,hwn,hxn,hbn⟩:∃ w3,(w2.alloc (.cells pz 117)).setRow N2 #[.bool false,.bool true,.bool false,.bool true,.bool false,.bool false]=w3∧w3.heap[N2]?=some (.cells #[.bool false,.bool true,.bool false,.bool true,.bool false,.bool false] 117 (0,0))∧Below w2.heap.size w2 w3:=⟨_,rfl,by rw [← hN2];exact setRow_heap _ _ _ _ _ _ (z0c w2 _),below_setRow ((Below.refl _ _).alloc (Nat.le_refl _) _) (by omega) _⟩
  have hx2:=z0c w2 (.cells pz 117)
  rw [hN2] at hx2
  have HPX:=hid hxn
  have HPZ:=hid hx2
  have HBN:=hid hbn
  have HWN:=hid hwn
  have HNN:=hid hN2
  have HS6:Hid ((#[.bool false,.bool true,.bool false,.bool true,.bool false,.bool false]:Array Value).size=6):=hid rfl
  have HA6:Hid ((#[.bool false,.bool true,.bool false,.bool true,.bool false,.bool false]:Array Value).all (·.oneCell')=true):=hid (by simp [Value.oneCell'])
  have p5:w3.cell? ⟨N2,5,none⟩=some (.bool false):=z0a hxn rfl
  clear hx2 hxn hbn hwn hN2
  have HB3:=hid (HB2.out.trans (HBN.out.mono HB2.out.size))
  go_wp2_with ((try rw [HNN.out]);(with_reducible refine z0j #[.bool false,.bool true,.bool false,.bool true,.bool false,.bool false] HS6.out HA6.out HPZ.out ?_ ?_ ?_);rfl;rfl;rw [HWN.out])
  refine (rec_write3 (rk 3) [] [] [] w3 (rk_ok (by omega)) rfl).mono ?_
  rintro e w4 ⟨p4,c4,rfl,_,hb4⟩
  have HB4:=hid (HB3.out.trans (hb4.mono HB3.out.size))
  rw [show (z0l ((rk 3).x [] [] [])).length=lenK 3 from bytes_len (X:=(rk 3).x [] [] []) rfl]
  rw [show lenK 3=16 from rfl]
  clear hb4 p5
  go_wp2_with fail
  refine (fsize_any _ _).mono ?_
  rintro e w5 ⟨rfl,rfl⟩
  go_wp2_with fail
  go_ret
  exact⟨rfl,HB4.out⟩
 by_cases h4:k=4
 case pos =>
  subst h4
  clear h1
  clear h2
  clear h3
  have hpa:=z1i 4 W
  unfold z1h at hpa
  rw [show ptc 4=#[.bool false,.bool true,.bool false,.bool false,.bool false,.bool false] from rfl] at hpa
  go_enter Tryz.func45,Tryz.ntmps45
  go_wp2_with fail
  refine hpa.mono ?_
  rintro e w2 ⟨rfl,h2⟩
  have HB2:=hid h2
  clear h2 hpa
  obtain⟨N2,hN2⟩:∃ n,w2.heap.size=n:=⟨_,rfl⟩
  obtain⟨w3,hwn,hxn,hbn⟩:∃ w3,(w2.alloc (.cells pz 117)).setRow N2 #[.bool false,.bool true,.bool false,.bool false,.bool false,.bool false]=w3∧w3.heap[N2]?=some (.cells #[.bool false,.bool true,.bool false,.bool false,.bool false,.bool false] 117 (0,0))∧Below w2.heap.size w2 w3:=⟨_,rfl,by rw [← hN2];exact setRow_heap _ _ _ _ _ _ (z0c w2 _),below_setRow ((Below.refl _ _).alloc (Nat.le_refl _) _) (by omega) _⟩
  have hx2:=z0c w2 (.cells pz 117)
  rw [hN2] at hx2
  have HPX:=hid hxn
  have HPZ:=hid hx2
  have HBN:=hid hbn
  have HWN:=hid hwn
  have HNN:=hid hN2
  have HS6:Hid ((#[.bool false,.bool true,.bool false,.bool false,.bool false,.bool false]:Array Value).size=6):=hid rfl
  have HA6:Hid ((#[.bool false,.bool true,.bool false,.bool false,.bool false,.bool false]:Array Value).all (·.oneCell')=true):=hid (by simp [Value.oneCell'])
  have p5:w3.cell? ⟨N2,5,none⟩=some (.bool false):=z0a hxn rfl
  clear hx2 hxn hbn hwn hN2
  have HB3:=hid (HB2.out.trans (HBN.out.mono HB2.out.size))
  go_wp2_with ((try rw [HNN.out]);(with_reducible refine z0j #[.bool false,.bool true,.bool false,.bool false,.bool false,.bool false] HS6.out HA6.out HPZ.out ?_ ?_ ?_);rfl;rfl;rw [HWN.out])
  refine (rec_write4 (rk 4) [] [] [] w3 (rk_ok (by omega)) rfl).mono ?_
  rintro e w4 ⟨p4,c4,rfl,_,hb4⟩
  have HB4:=hid (HB3.out.trans (hb4.mono HB3.out.size))
  rw [show (z0l ((rk 4).x [] [] [])).length=lenK 4 from bytes_len (X:=(rk 4).x [] [] []) rfl]
  rw [show lenK 4=5 from rfl]
  clear hb4 p5
  go_wp2_with fail
  refine (fsize_any _ _).mono ?_
  rintro e w5 ⟨rfl,rfl⟩
  go_wp2_with fail
  go_ret
  exact⟨rfl,HB4.out⟩
 by_cases h5:k=5
 case pos =>
  subst h5
  clear h1
  clear h2
  clear h3
  clear h4
  have hpa:=z1i 5 W
  unfold z1h at hpa
  rw [show ptc 5=#[.bool false,.bool true,.bool false,.bool false,.bool false,.bool false] from rfl] at hpa
  go_enter Tryz.func45,Tryz.ntmps45
  go_wp2_with fail
  refine hpa.mono ?_
  rintro e w2 ⟨rfl,h2⟩
  have HB2:=hid h2
  clear h2 hpa
  obtain⟨N2,hN2⟩:∃ n,w2.heap.size=n:=⟨_,rfl⟩
  obtain⟨w3,hwn,hxn,hbn⟩:∃ w3,(w2.alloc (.cells pz 117)).setRow N2 #[.bool false,.bool true,.bool false,.bool false,.bool false,.bool false]=w3∧w3.heap[N2]?=some (.cells #[.bool false,.bool true,.bool false,.bool false,.bool false,.bool false] 117 (0,0))∧Below w2.heap.size w2 w3:=⟨_,rfl,by rw [← hN2];exact setRow_heap _ _ _ _ _ _ (z0c w2 _),below_setRow ((Below.refl _ _).alloc (Nat.le_refl _) _) (by omega) _⟩
  have hx2:=z0c w2 (.cells pz 117)
  rw [hN2] at hx2
  have HPX:=hid hxn
  have HPZ:=hid hx2
  have HBN:=hid hbn
  have HWN:=hid hwn
  have HNN:=hid hN2
  have HS6:Hid ((#[.bool false,.bool true,.bool false,.bool false,.bool false,.bool false]:Array Value).size=6):=hid rfl
  have HA6:Hid ((#[.bool false,.bool true,.bool false,.bool false,.bool false,.bool false]:Array Value).all (·.oneCell')=true):=hid (by simp [Value.oneCell'])
  have p5:w3.cell? ⟨N2,5,none⟩=some (.bool false):=z0a hxn rfl
  clear hx2 hxn hbn hwn hN2
  have HB3:=hid (HB2.out.trans (HBN.out.mono HB2.out.size))
  go_wp2_with ((try rw [HNN.out]);(with_reducible refine z0j #[.bool false,.bool true,.bool false,.bool false,.bool false,.bool false] HS6.out HA6.out HPZ.out ?_ ?_ ?_);rfl;rfl;rw [HWN.out])
  refine (rec_write5 (rk 5) [] [] [] w3 (rk_ok (by omega)) rfl).mono ?_
  rintro e w4 ⟨p4,c4,rfl,_,hb4⟩
  have HB4:=hid (HB3.out.trans (hb4.mono HB3.out.size))
  rw [show (z0l ((rk 5).x [] [] [])).length=lenK 5 from bytes_len (X:=(rk 5).x [] [] []) rfl]
  rw [show lenK 5=5 from rfl]
  clear hb4 p5
  go_wp2_with fail
  refine (fsize_any _ _).mono ?_
  rintro e w5 ⟨rfl,rfl⟩
  go_wp2_with fail
  go_ret
  exact⟨rfl,HB4.out⟩
 by_cases h6:k=6
 case pos =>
  subst h6
  clear h1
  clear h2
  clear h3
  clear h4
  clear h5
  have hpa:=z1i 6 W
  unfold z1h at hpa
  rw [show ptc 6=#[.bool false,.bool true,.bool false,.bool true,.bool false,.bool false] from rfl] at hpa
  go_enter Tryz.func45,Tryz.ntmps45
  go_wp2_with fail
  refine hpa.mono ?_
  rintro e w2 ⟨rfl,h2⟩
  have HB2:=hid h2
  clear h2 hpa
  obtain⟨N2,hN2⟩:∃ n,w2.heap.size=n:=⟨_,rfl⟩
  obtain⟨w3,hwn,hxn,hbn⟩:∃ w3,(w2.alloc (.cells pz 117)).setRow N2 #[.bool false,.bool true,.bool false,.bool true,.bool false,.bool false]=w3∧w3.heap[N2]?=some (.cells #[.bool false,.bool true,.bool false,.bool true,.bool false,.bool false] 117 (0,0))∧Below w2.heap.size w2 w3:=⟨_,rfl,by rw [← hN2];exact setRow_heap _ _ _ _ _ _ (z0c w2 _),below_setRow ((Below.refl _ _).alloc (Nat.le_refl _) _) (by omega) _⟩
  have hx2:=z0c w2 (.cells pz 117)
  rw [hN2] at hx2
  have HPX:=hid hxn
  have HPZ:=hid hx2
  have HBN:=hid hbn
  have HWN:=hid hwn
  have HNN:=hid hN2
  have HS6:Hid ((#[.bool false,.bool true,.bool false,.bool true,.bool false,.bool false]:Array Value).size=6):=hid rfl
  have HA6:Hid ((#[.bool false,.bool true,.bool false,.bool true,.bool false,.bool false]:Array Value).all (·.oneCell')=true):=hid (by simp [Value.oneCell'])
  have p5:w3.cell? ⟨N2,5,none⟩=some (.bool false):=z0a hxn rfl
  clear hx2 hxn hbn hwn hN2
  have HB3:=hid (HB2.out.trans (HBN.out.mono HB2.out.size))
  go_wp2_with ((try rw [HNN.out]);(with_reducible refine z0j #[.bool false,.bool true,.bool false,.bool true,.bool false,.bool false] HS6.out HA6.out HPZ.out ?_ ?_ ?_);rfl;rfl;rw [HWN.out])
  refine (rec_write6 (rk 6) [] [] [] w3 (rk_ok (by omega)) rfl).mono ?_
  rintro e w4 ⟨p4,c4,rfl,_,hb4⟩
  have HB4:=hid (HB3.out.trans (hb4.mono HB3.out.size))
  rw [show (z0l ((rk 6).x [] [] [])).length=lenK 6 from bytes_len (X:=(rk 6).x [] [] []) rfl]
  rw [show lenK 6=16 from rfl]
  clear hb4 p5
  go_wp2_with fail
  refine (fsize_any _ _).mono ?_
  rintro e w5 ⟨rfl,rfl⟩
  go_wp2_with fail
  go_ret
  exact⟨rfl,HB4.out⟩
 by_cases h7:k=7
 case pos =>
  subst h7
  clear h1
  clear h2
  clear h3
  clear h4
  clear h5
  clear h6
  have hpa:=z1i 7 W
  unfold z1h at hpa
  rw [show ptc 7=#[.bool false,.bool true,.bool false,.bool false,.bool false,.bool false] from rfl] at hpa
  go_enter Tryz.func45,Tryz.ntmps45
  go_wp2_with fail
  refine hpa.mono ?_
  rintro e w2 ⟨rfl,h2⟩
  have HB2:=hid h2
  clear h2 hpa
  obtain⟨N2,hN2⟩:∃ n,w2.heap.size=n:=⟨_,rfl⟩
  obtain⟨w3,hwn,hxn,hbn⟩:∃ w3,(w2.alloc (.cells pz 117)).setRow N2 #[.bool false,.bool true,.bool false,.bool false,.bool false,.bool false]=w3∧w3.heap[N2]?=some (.cells #[.bool false,.bool true,.bool false,.bool false,.bool false,.bool false] 117 (0,0))∧Below w2.heap.size w2 w3:=⟨_,rfl,by rw [← hN2];exact setRow_heap _ _ _ _ _ _ (z0c w2 _),below_setRow ((Below.refl _ _).alloc (Nat.le_refl _) _) (by omega) _⟩
  have hx2:=z0c w2 (.cells pz 117)
  rw [hN2] at hx2
  have HPX:=hid hxn
  have HPZ:=hid hx2
  have HBN:=hid hbn
  have HWN:=hid hwn
  have HNN:=hid hN2
  have HS6:Hid ((#[.bool false,.bool true,.bool false,.bool false,.bool false,.bool false]:Array Value).size=6):=hid rfl
  have HA6:Hid ((#[.bool false,.bool true,.bool false,.bool false,.bool false,.bool false]:Array Value).all (·.oneCell')=true):=hid (by simp [Value.oneCell'])
  have p5:w3.cell? ⟨N2,5,none⟩=some (.bool false):=z0a hxn rfl
  clear hx2 hxn hbn hwn hN2
  have HB3:=hid (HB2.out.trans (HBN.out.mono HB2.out.size))
  go_wp2_with ((try rw [HNN.out]);(with_reducible refine z0j #[.bool false,.bool true,.bool false,.bool false,.bool false,.bool false] HS6.out HA6.out HPZ.out ?_ ?_ ?_);rfl;rfl;rw [HWN.out])
  refine (rec_write7 (rk 7) [] [] [] w3 (rk_ok (by omega)) rfl).mono ?_
  rintro e w4 ⟨p4,c4,rfl,_,hb4⟩
  have HB4:=hid (HB3.out.trans (hb4.mono HB3.out.size))
  rw [show (z0l ((rk 7).x [] [] [])).length=lenK 7 from bytes_len (X:=(rk 7).x [] [] []) rfl]
  rw [show lenK 7=5 from rfl]
  clear hb4 p5
  go_wp2_with fail
  refine (fsize_any _ _).mono ?_
  rintro e w5 ⟨rfl,rfl⟩
  go_wp2_with fail
  go_ret
  exact⟨rfl,HB4.out⟩
 by_cases h8:k=8
 case pos =>
  subst h8
  clear h1
  clear h2
  clear h3
  clear h4
  clear h5
  clear h6
  clear h7
  have hpa:=z1i 8 W
  unfold z1h at hpa
  rw [show ptc 8=#[.bool true,.bool false,.bool false,.bool false,.bool false,.bool false] from rfl] at hpa
  go_enter Tryz.func45,Tryz.ntmps45
  go_wp2_with fail
  refine hpa.mono ?_
  rintro e w2 ⟨rfl,h2⟩
  have HB2:=hid h2
  clear h2 hpa
  obtain⟨N2,hN2⟩:∃ n,w2.heap.size=n:=⟨_,rfl⟩
  obtain⟨w3,hwn,hxn,hbn⟩:∃ w3,(w2.alloc (.cells pz 117)).setRow N2 #[.bool true,.bool false,.bool false,.bool false,.bool false,.bool false]=w3∧w3.heap[N2]?=some (.cells #[.bool true,.bool false,.bool false,.bool false,.bool false,.bool false] 117 (0,0))∧Below w2.heap.size w2 w3:=⟨_,rfl,by rw [← hN2];exact setRow_heap _ _ _ _ _ _ (z0c w2 _),below_setRow ((Below.refl _ _).alloc (Nat.le_refl _) _) (by omega) _⟩
  have hx2:=z0c w2 (.cells pz 117)
  rw [hN2] at hx2
  have HPX:=hid hxn
  have HPZ:=hid hx2
  have HBN:=hid hbn
  have HWN:=hid hwn
  have HNN:=hid hN2
  have HS6:Hid ((#[.bool true,.bool false,.bool false,.bool false,.bool false,.bool false]:Array Value).size=6):=hid rfl
  have HA6:Hid ((#[.bool true,.bool false,.bool false,.bool false,.bool false,.bool false]:Array Value).all (·.oneCell')=true):=hid (by simp [Value.oneCell'])
  have p5:w3.cell? ⟨N2,5,none⟩=some (.bool false):=z0a hxn rfl
  clear hx2 hxn hbn hwn hN2
  have HB3:=hid (HB2.out.trans (HBN.out.mono HB2.out.size))
  go_wp2_with ((try rw [HNN.out]);(with_reducible refine z0j #[.bool true,.bool false,.bool false,.bool false,.bool false,.bool false] HS6.out HA6.out HPZ.out ?_ ?_ ?_);rfl;rfl;rw [HWN.out])
  refine (rec_write8 (rk 8) [] [] [] w3 (rk_ok (by omega)) rfl).mono ?_
  rintro e w4 ⟨p4,c4,rfl,_,hb4⟩
  have HB4:=hid (HB3.out.trans (hb4.mono HB3.out.size))
  rw [show (z0l ((rk 8).x [] [] [])).length=lenK 8 from bytes_len (X:=(rk 8).x [] [] []) rfl]
  rw [show lenK 8=5 from rfl]
  clear hb4 p5
  go_wp2_with fail
  refine (fsize_any _ _).mono ?_
  rintro e w5 ⟨rfl,rfl⟩
  go_wp2_with fail
  go_ret
  exact⟨rfl,HB4.out⟩
 by_cases h9:k=9
 case pos =>
  subst h9
  clear h1
  clear h2
  clear h3
  clear h4
  clear h5
  clear h6
  clear h7
  clear h8
  have hpa:=z1i 9 W
  unfold z1h at hpa
  rw [show ptc 9=#[.bool true,.bool false,.bool false,.bool false,.bool true,.bool false] from rfl] at hpa
  go_enter Tryz.func45,Tryz.ntmps45
  go_wp2_with fail
  refine hpa.mono ?_
  rintro e w2 ⟨rfl,h2⟩
  have HB2:=hid h2
  clear h2 hpa
  obtain⟨N2,hN2⟩:∃ n,w2.heap.size=n:=⟨_,rfl⟩
  obtain⟨w3,hwn,hxn,hbn⟩:∃ w3,(w2.alloc (.cells pz 117)).setRow N2 #[.bool true,.bool false,.bool false,.bool false,.bool true,.bool false]=w3∧w3.heap[N2]?=some (.cells #[.bool true,.bool false,.bool false,.bool false,.bool true,.bool false] 117 (0,0))∧Below w2.heap.size w2 w3:=⟨_,rfl,by rw [← hN2];exact setRow_heap _ _ _ _ _ _ (z0c w2 _),below_setRow ((Below.refl _ _).alloc (Nat.le_refl _) _) (by omega) _⟩
  have hx2:=z0c w2 (.cells pz 117)
  rw [hN2] at hx2
  have HPX:=hid hxn
  have HPZ:=hid hx2
  have HBN:=hid hbn
  have HWN:=hid hwn
  have HNN:=hid hN2
  have HS6:Hid ((#[.bool true,.bool false,.bool false,.bool false,.bool true,.bool false]:Array Value).size=6):=hid rfl
  have HA6:Hid ((#[.bool true,.bool false,.bool false,.bool false,.bool true,.bool false]:Array Value).all (·.oneCell')=true):=hid (by simp [Value.oneCell'])
  have p5:w3.cell? ⟨N2,5,none⟩=some (.bool false):=z0a hxn rfl
  clear hx2 hxn hbn hwn hN2
  have HB3:=hid (HB2.out.trans (HBN.out.mono HB2.out.size))
  go_wp2_with ((try rw [HNN.out]);(with_reducible refine z0j #[.bool true,.bool false,.bool false,.bool false,.bool true,.bool false] HS6.out HA6.out HPZ.out ?_ ?_ ?_);rfl;rfl;rw [HWN.out])
  refine (rec_write9 (rk 9) [] [] [] w3 (rk_ok (by omega)) rfl).mono ?_
  rintro e w4 ⟨p4,c4,rfl,_,hb4⟩
  have HB4:=hid (HB3.out.trans (hb4.mono HB3.out.size))
  rw [show (z0l ((rk 9).x [] [] [])).length=lenK 9 from bytes_len (X:=(rk 9).x [] [] []) rfl]
  rw [show lenK 9=6 from rfl]
  clear hb4 p5
  go_wp2_with fail
  refine (fsize_any _ _).mono ?_
  rintro e w5 ⟨rfl,rfl⟩
  go_wp2_with fail
  go_ret
  exact⟨rfl,HB4.out⟩
 have e1:(k==1)=false:=by simpa using h1
 have e2:(k==2)=false:=by simpa using h2
 have e3:(k==3)=false:=by simpa using h3
 have e4:(k==4)=false:=by simpa using h4
 have e5:(k==5)=false:=by simpa using h5
 have e6:(k==6)=false:=by simpa using h6
 have e7:(k==7)=false:=by simpa using h7
 have e8:(k==8)=false:=by simpa using h8
 have e9:(k==9)=false:=by simpa using h9
 have HK:Hid (ptc k=pz∧kOk k=false):=hid ⟨by unfold ptc kS kT kB kA kO kP;rw [e1,e2,e3,e4,e5,e6,e7,e8,e9];rfl,by unfold kOk;rw [e1,e2,e3,e4,e5,e6,e7,e8,e9];rfl⟩
 have HC:Hid (costI k=0):=hid (if_neg (by rw [HK.out.2];simp))
 clear h1 e1 h2 e2 h3 e3 h4 e4 h5 e5 h6 e6 h7 e7 h8 e8 h9 e9
 have hpa:=z1i k W
 unfold z1h at hpa
 rw [HK.out.1,HK.out.2] at hpa
 go_enter Tryz.func45,Tryz.ntmps45
 go_wp2_with fail
 refine hpa.mono ?_
 rintro e w2 ⟨rfl,h2⟩
 have HB2:=hid h2
 clear h2 hpa
 obtain⟨N2,hN2⟩:∃ n,w2.heap.size=n:=⟨_,rfl⟩
 obtain⟨w3,hwn,hxn,hbn⟩:∃ w3,(w2.alloc (.cells pz 117)).setRow N2 #[.bool false,.bool false,.bool false,.bool false,.bool false,.bool false]=w3∧w3.heap[N2]?=some (.cells #[.bool false,.bool false,.bool false,.bool false,.bool false,.bool false] 117 (0,0))∧Below w2.heap.size w2 w3:=⟨_,rfl,by rw [← hN2];exact setRow_heap _ _ _ _ _ _ (z0c w2 _),below_setRow ((Below.refl _ _).alloc (Nat.le_refl _) _) (by omega) _⟩
 have hx2:=z0c w2 (.cells pz 117)
 rw [hN2] at hx2
 have HPX:=hid hxn
 have HPZ:=hid hx2
 have HBN:=hid hbn
 have HWN:=hid hwn
 have HNN:=hid hN2
 have HS6:Hid ((#[.bool false,.bool false,.bool false,.bool false,.bool false,.bool false]:Array Value).size=6):=hid rfl
 have HA6:Hid ((#[.bool false,.bool false,.bool false,.bool false,.bool false,.bool false]:Array Value).all (·.oneCell')=true):=hid (by simp [Value.oneCell'])
 have p5:w3.cell? ⟨N2,5,none⟩=some (.bool false):=z0a hxn rfl
 clear hx2 hxn hbn hwn hN2
 have HB3:=hid (HB2.out.trans (HBN.out.mono HB2.out.size))
 go_wp2_with ((try rw [HNN.out]);(with_reducible refine z0j #[.bool false,.bool false,.bool false,.bool false,.bool false,.bool false] HS6.out HA6.out HPZ.out ?_ ?_ ?_);rfl;rfl;rw [HWN.out])
 go_ret
 exact⟨by rw [HC.out];rfl,HB3.out⟩
def sizeX (X:Rx):Int:=if z1n X=true then 6+((z0l X).length:Int) else 0
theorem good_len {X:Rx} (h:z1n X=true):5≤(z0l X).length∧(z0l X).length≤407:=by
 have hk:=goodX_kOk h
 have hp:=goodX_prog h
 rw [bytes_len hk]
 rcases kOk_cases hk with h | h | h | h | h | h | h | h | h <;> rw [h]
 · rw [h] at hp
   have hp':z0p 4 4 X.pg=true:=hp
   have:=pg_few hp'
   simp [lenK];omega
 all_goals simp [lenK]
theorem size_x (r:Rv) (L:List Ln) (T:List Tk) (M:List Ln) (W:World) (hw:Words W) (hP:RvM W r L T M) (hok:Rxok (r.x L T M)) (h1:r.ln≤400∧r.tn≤400∧r.wn≤400):Calls Tryz.prog 28 #[.agg (rcs r)] W fun e w'=>e=.returned (.int .i64 (sizeX (r.x L T M)))∧Below W.heap.size W w':=by
 obtain⟨W1,hW1,hb1⟩:∃ W1,W.alloc (.cells (rcs r) 42)=W1∧Below W.heap.size W W1:=⟨_,rfl,(Below.refl _ _).alloc (Nat.le_refl _) _⟩
 obtain⟨B,hB⟩:∃ B,W.heap.size=B:=⟨_,rfl⟩
 have hrb:=RB.new W r
 rw [hW1,hB] at hrb
 have HX1:=hid hrb
 have HW1:=hid hW1
 have HB1:=hid hb1
 have HRE:=hid hB
 clear hW1 hb1 hB hrb
 have hen:=rec_encode r L T M W1 (hw.later HB1.out) (hP.later HB1.out) hok h1
 clear hw hP hok h1
 cases hg:z1n (r.x L T M) with
 | false =>
  have HG:Hid (sizeX (r.x L T M)=0):=hid (by unfold sizeX;rw [hg];rfl)
  have HGD:=hid hg
  clear hg
  go_enter Tryz.func28,Tryz.ntmps28
  go_upto_region 1 with (fail)
  rw [HW1.out,HRE.out]
  go_wp2_with ((with_reducible refine z1l HX1.out ?_ ?_);rfl)
  refine hen.mono ?_
  rintro e w2 ⟨hb2,hy⟩
  rw [HGD.out,if_neg (by decide)] at hy
  subst hy
  have HB2:=hid (HB1.out.trans (hb2.mono HB1.out.size))
  clear hb2 hen
  go_wp2_with fail
  refine (fsize_any _ _).mono ?_
  rintro e w3 ⟨rfl,rfl⟩
  go_wp2_with fail
  go_ret
  exact⟨by rw [HG.out];rfl,HB2.out⟩
 | true =>
  have hl:=good_len hg
  have HG:Hid (sizeX (r.x L T M)=6+((z0l (r.x L T M)).length:Int)):=hid (if_pos hg)
  have HGD:=hid hg
  clear hg
  go_enter Tryz.func28,Tryz.ntmps28
  go_upto_region 1 with (fail)
  rw [HW1.out,HRE.out]
  go_wp2_with ((with_reducible refine z1l HX1.out ?_ ?_);rfl)
  refine hen.mono ?_
  rintro e w2 ⟨hb2,hy⟩
  rw [HGD.out,if_pos rfl] at hy
  obtain⟨p2,c2,rfl,_⟩:=hy
  have HB2:=hid (HB1.out.trans (hb2.mono HB1.out.size))
  clear hb2 hen
  generalize (z0l (r.x L T M)).length=n at *
  have HL:=hid hl
  clear hl
  go_wp2_with fail
  refine (fsize_any _ _).mono ?_
  rintro e w3 ⟨rfl,rfl⟩
  rw [show sizeI (n:Int)=6+(n:Int) from if_neg (by have:=HL.out;omega)]
  go_wp2_with fail
  go_ret
  exact⟨by rw [HG.out];rfl,HB2.out⟩
abbrev zr:Array Value:=#[.int .u8 0,.int .u32 0,.int .u32 0,.int .u8 0,.bool false,.int .u8 0,.int .u8 0,.int .u8 0,.int .i64 0,.int .u8 0,.int .u8 0,.int .u32 0,.int .u8 0,.slice none 0 0,.slice none 0 0,.slice none 0 0,.int .u8 0,.int .u8 0,.int .u8 0,.int .i64 0]
theorem no_lists {r:Rv} (h:r.lp=none∧r.ln=0∧r.lcp=0∧r.tp=none∧r.tn=0∧r.tcp=0∧r.wp=none∧r.wn=0∧r.wcp=0) (w:World):RvM w r [] [] []:=by
 obtain⟨e1,e2,e3,e4,e5,e6,e7,e8,e9⟩:=h
 unfold RvM
 rw [e1,e2,e3,e4,e5,e6,e7,e8,e9]
 exact⟨SlG.empty _,SlG.empty _,SlG.empty _⟩
def rm (k sg tx st:Int) (cp:Bool) (ka kb kc d o:Int):Rv:=⟨k,sg,tx,st,cp,ka,kb,kc,d,o,0,0,0,none,0,0,none,0,0,none,0,0,0,0,0,0⟩
theorem rm_lists (k sg tx st:Int) (cp:Bool) (ka kb kc d o:Int) (w:World):RvM w (rm k sg tx st cp ka kb kc d o) [] [] []:=no_lists ⟨rfl,rfl,rfl,rfl,rfl,rfl,rfl,rfl,rfl⟩ w
theorem put_ky (r:Rv) (a b c:Int):putAt (rcs r) 5 [.int .u8 a,.int .u8 b,.int .u8 c]=rcs { r with ka:=a,kb:=b,kc:=c }:=by simp [putAt,rcs]
theorem wpList_store_ky (a b c:Int) {ops:Array Oper} {rest:List Oper} {ac:Act} {w:World} {Q:Exit→Act→World→Prop} {dst:Option Tmp} {x y:Operand} {ty:TypeId} {pos:String} {after:Array Edge} {B:Nat} {r:Rv} (hB:RB w B r)
 (hx:ac.eval x=.pointer (some ⟨B,5,none⟩)) (hy:ac.eval y=.agg #[.int .u8 a,.int .u8 b,.int .u8 c])
 (h:wpList Tryz.prog ops Q rest (ac.put dst undef) (w.setRow B (rcs { r with ka:=a,kb:=b,kc:=c }))):wpList Tryz.prog ops Q (Oper.mk dst (.store 40 x y) ty pos after none::rest) ac w :=
 wpList_store_part rfl 40 x y rfl B 5 #[.int .u8 a,.int .u8 b,.int .u8 c] hx hy 42 (rcs r) hB (by kernel_rfl) (by show 5+3≤20;omega) (by simp [Value.oneCell']) (by rw [show (#[.int .u8 a,.int .u8 b,.int .u8 c]:Array Value).toList=[.int .u8 a,.int .u8 b,.int .u8 c] from rfl,put_ky];exact h)
theorem two_recs (W:World) (r r':Rv):∃ W1,(W.alloc (.cells (rcs r) 42)).alloc (.cells (rcs r') 42)=W1∧RB W1 W.heap.size r∧RB W1 (W.heap.size+1) r'∧Below W.heap.size W W1:=by
 refine⟨_,rfl,?_,?_,((Below.refl _ _).alloc (Nat.le_refl _) _).alloc (by simp) _⟩
 · exact (Below.heap_alloc _ _ _ (by simp)).trans (z0c W _)
 · have:=z0c (W.alloc (.cells (rcs r) 42)) (.cells (rcs r') 42)
   rw [World.size_alloc] at this
   exact this
theorem rx_eq (r r':Rv) (L:List Ln) (T:List Tk) (M:List Ln) (L':List Ln) (T':List Tk) (M':List Ln):decide (r.x L T M=r'.x L' T' M')=(r.k==r'.k && r.sg==r'.sg && r.tx==r'.tx && r.st==r'.st && r.cp==r'.cp && decide (((r.ka,r.kb,r.kc):K)=(r'.ka,r'.kb,r'.kc)) && r.d==r'.d && r.o==r'.o && decide (r.pg L T M=r'.pg L' T' M')):=by
 rw [Bool.eq_iff_iff]
 simp only [decide_eq_true_eq,Bool.and_eq_true,beq_iff_eq]
 constructor
 · intro h
   refine⟨⟨⟨⟨⟨⟨⟨⟨?_,?_⟩,?_⟩,?_⟩,?_⟩,?_⟩,?_⟩,?_⟩,?_⟩
   · exact congrArg Rx.k h
   · exact congrArg Rx.sg h
   · exact congrArg Rx.tx h
   · exact congrArg Rx.st h
   · exact congrArg Rx.cp h
   · exact congrArg Rx.key h
   · exact congrArg Rx.d h
   · exact congrArg Rx.o h
   · exact congrArg Rx.pg h
 · rintro ⟨⟨⟨⟨⟨⟨⟨⟨h1,h2⟩,h3⟩,h4⟩,h5⟩,h6⟩,h7⟩,h8⟩,h9⟩
   unfold Rv.x
   rw [h1,h2,h3,h4,h5,h6,h7,h8,h9]
theorem rrec_same (r r':Rv) (L:List Ln) (T:List Tk) (M:List Ln) (L':List Ln) (T':List Tk) (M':List Ln) (W:World) (hP:RvM W r L T M) (hP':RvM W r' L' T' M') (h1:r.ln≤1000∧r.tn≤1000∧r.wn≤1000) (h2:r'.ln≤1000∧r'.tn≤1000∧r'.wn≤1000):Calls Tryz.prog 115 #[.agg (rcs r),.agg (rcs r')] W fun e w'=>e=.returned (.bool (decide (r.x L T M=r'.x L' T' M')))∧Below W.heap.size W w':=by
 obtain⟨W1,hW1,hx,hx',hb1⟩:=two_recs W r r'
 have HP:=hid (hP.later hb1)
 have HP':=hid (hP'.later hb1)
 have hpp:=rsame_p r.pk r.od r.po r.lp r.ln r.lcp r.tp r.tn r.tcp r.wp r.wn r.wcp r.sk r.fr r.to r.q r'.pk r'.od r'.po r'.lp r'.ln r'.lcp r'.tp r'.tn r'.tcp r'.wp r'.wn r'.wcp r'.sk r'.fr r'.to r'.q L T M L' T' M' W1 HP.out HP'.out h1 h2
 have hkk:=fun w=>key_eql r.ka r.kb r.kc r'.ka r'.kb r'.kc w
 obtain⟨y,hy⟩:∃ y,decide (((r.ka,r.kb,r.kc):K)=(r'.ka,r'.kb,r'.kc))=y:=⟨_,rfl⟩
 obtain⟨z,hz⟩:∃ z,decide (r.pg L T M=r'.pg L' T' M')=z:=⟨_,rfl⟩
 have hz':decide ((⟨r.pk,r.od,r.po,L,T,M,r.sk,r.fr,r.to,r.q⟩:Pg)=⟨r'.pk,r'.od,r'.po,L',T',M',r'.sk,r'.fr,r'.to,r'.q⟩)=z:=hz
 rw [hz'] at hpp
 rw [hy] at hkk
 have HA:=hid (rx_eq r r' L T M L' T' M')
 rw [hy,hz] at HA
 have HX:=hid hx
 have HX':=hid hx'
 have HW1:=hid hW1
 have HB1:=hid hb1
 have c0:W1.cell? ⟨W.heap.size,0,none⟩=some (.int .u8 r.k):=z0a hx rfl
 have d0:W1.cell? ⟨W.heap.size+1,0,none⟩=some (.int .u8 r'.k):=z0a hx' rfl
 have c1:W1.cell? ⟨W.heap.size,1,none⟩=some (.int .u32 r.sg):=z0a hx rfl
 have d1:W1.cell? ⟨W.heap.size+1,1,none⟩=some (.int .u32 r'.sg):=z0a hx' rfl
 have c2:W1.cell? ⟨W.heap.size,2,none⟩=some (.int .u32 r.tx):=z0a hx rfl
 have d2:W1.cell? ⟨W.heap.size+1,2,none⟩=some (.int .u32 r'.tx):=z0a hx' rfl
 have c3:W1.cell? ⟨W.heap.size,3,none⟩=some (.int .u8 r.st):=z0a hx rfl
 have d3:W1.cell? ⟨W.heap.size+1,3,none⟩=some (.int .u8 r'.st):=z0a hx' rfl
 have c4:W1.cell? ⟨W.heap.size,4,none⟩=some (.bool r.cp):=z0a hx rfl
 have d4:W1.cell? ⟨W.heap.size+1,4,none⟩=some (.bool r'.cp):=z0a hx' rfl
 have c8:W1.cell? ⟨W.heap.size,8,none⟩=some (.int .i64 r.d):=z0a hx rfl
 have d8:W1.cell? ⟨W.heap.size+1,8,none⟩=some (.int .i64 r'.d):=z0a hx' rfl
 have c9:W1.cell? ⟨W.heap.size,9,none⟩=some (.int .u8 r.o):=z0a hx rfl
 have d9:W1.cell? ⟨W.heap.size+1,9,none⟩=some (.int .u8 r'.o):=z0a hx' rfl
 clear hW1 hx hx' hb1 hP hP' h1 h2 hy hz hz'
 cases qk:(r.k==r'.k)
 case false =>
  go_enter Tryz.func115,Tryz.ntmps115
  go_upto_region 1 with (fail)
  rw [HW1.out]
  go_wp2_with (first | ((with_reducible refine z0g HX.out ?_ ?_ ?_);rfl;rfl) | ((with_reducible refine z0g HX'.out ?_ ?_ ?_);rfl;rfl) | ((with_reducible refine z0f HX.out ?_ ?_ ?_);rfl;rfl) | ((with_reducible refine z0f HX'.out ?_ ?_ ?_);rfl;rfl))
  go_ret
  exact⟨by rw [HA.out,qk];rfl,HB1.out⟩
 cases qsg:(r.sg==r'.sg)
 case false =>
  go_enter Tryz.func115,Tryz.ntmps115
  go_upto_region 1 with (fail)
  rw [HW1.out]
  go_wp2_with (first | ((with_reducible refine z0g HX.out ?_ ?_ ?_);rfl;rfl) | ((with_reducible refine z0g HX'.out ?_ ?_ ?_);rfl;rfl) | ((with_reducible refine z0f HX.out ?_ ?_ ?_);rfl;rfl) | ((with_reducible refine z0f HX'.out ?_ ?_ ?_);rfl;rfl))
  go_ret
  exact⟨by rw [HA.out,qk,qsg];rfl,HB1.out⟩
 cases qtx:(r.tx==r'.tx)
 case false =>
  go_enter Tryz.func115,Tryz.ntmps115
  go_upto_region 1 with (fail)
  rw [HW1.out]
  go_wp2_with (first | ((with_reducible refine z0g HX.out ?_ ?_ ?_);rfl;rfl) | ((with_reducible refine z0g HX'.out ?_ ?_ ?_);rfl;rfl) | ((with_reducible refine z0f HX.out ?_ ?_ ?_);rfl;rfl) | ((with_reducible refine z0f HX'.out ?_ ?_ ?_);rfl;rfl))
  go_ret
  exact⟨by rw [HA.out,qk,qsg,qtx];rfl,HB1.out⟩
 cases qst:(r.st==r'.st)
 case false =>
  go_enter Tryz.func115,Tryz.ntmps115
  go_upto_region 1 with (fail)
  rw [HW1.out]
  go_wp2_with (first | ((with_reducible refine z0g HX.out ?_ ?_ ?_);rfl;rfl) | ((with_reducible refine z0g HX'.out ?_ ?_ ?_);rfl;rfl) | ((with_reducible refine z0f HX.out ?_ ?_ ?_);rfl;rfl) | ((with_reducible refine z0f HX'.out ?_ ?_ ?_);rfl;rfl))
  go_ret
  exact⟨by rw [HA.out,qk,qsg,qtx,qst];rfl,HB1.out⟩
 cases qcp:(r.cp==r'.cp)
 case false =>
  go_enter Tryz.func115,Tryz.ntmps115
  go_upto_region 1 with (fail)
  rw [HW1.out]
  go_wp2_with (first | ((with_reducible refine z0g HX.out ?_ ?_ ?_);rfl;rfl) | ((with_reducible refine z0g HX'.out ?_ ?_ ?_);rfl;rfl) | ((with_reducible refine z0f HX.out ?_ ?_ ?_);rfl;rfl) | ((with_reducible refine z0f HX'.out ?_ ?_ ?_);rfl;rfl))
  go_ret
  exact⟨by rw [HA.out,qk,qsg,qtx,qst,qcp];rfl,HB1.out⟩
 cases y
 case false =>
  go_enter Tryz.func115,Tryz.ntmps115
  go_upto_region 1 with (fail)
  rw [HW1.out]
  go_wp2_with (first | ((with_reducible refine z0g HX.out ?_ ?_ ?_);rfl;rfl) | ((with_reducible refine z0g HX'.out ?_ ?_ ?_);rfl;rfl) | ((with_reducible refine z0f HX.out ?_ ?_ ?_);rfl;rfl) | ((with_reducible refine z0f HX'.out ?_ ?_ ?_);rfl;rfl))
  go_ret
  exact⟨by rw [HA.out,qk,qsg,qtx,qst,qcp];rfl,HB1.out⟩
 cases qd:(r.d==r'.d)
 case false =>
  go_enter Tryz.func115,Tryz.ntmps115
  go_upto_region 1 with (fail)
  rw [HW1.out]
  go_wp2_with (first | ((with_reducible refine z0g HX.out ?_ ?_ ?_);rfl;rfl) | ((with_reducible refine z0g HX'.out ?_ ?_ ?_);rfl;rfl) | ((with_reducible refine z0f HX.out ?_ ?_ ?_);rfl;rfl) | ((with_reducible refine z0f HX'.out ?_ ?_ ?_);rfl;rfl))
  go_ret
  exact⟨by rw [HA.out,qk,qsg,qtx,qst,qcp,qd];rfl,HB1.out⟩
 cases qo:(r.o==r'.o)
 case false =>
  go_enter Tryz.func115,Tryz.ntmps115
  go_upto_region 1 with (fail)
  rw [HW1.out]
  go_wp2_with (first | ((with_reducible refine z0g HX.out ?_ ?_ ?_);rfl;rfl) | ((with_reducible refine z0g HX'.out ?_ ?_ ?_);rfl;rfl) | ((with_reducible refine z0f HX.out ?_ ?_ ?_);rfl;rfl) | ((with_reducible refine z0f HX'.out ?_ ?_ ?_);rfl;rfl))
  go_ret
  exact⟨by rw [HA.out,qk,qsg,qtx,qst,qcp,qd,qo];rfl,HB1.out⟩
 go_enter Tryz.func115,Tryz.ntmps115
 go_upto_region 1 with (fail)
 rw [HW1.out]
 go_wp2_with (first | ((with_reducible refine z0g HX.out ?_ ?_ ?_);rfl;rfl) | ((with_reducible refine z0g HX'.out ?_ ?_ ?_);rfl;rfl) | ((with_reducible refine z0f HX.out ?_ ?_ ?_);rfl;rfl) | ((with_reducible refine z0f HX'.out ?_ ?_ ?_);rfl;rfl))
 refine hpp.mono ?_
 rintro e w2 ⟨rfl,h2⟩
 have HB2:=hid (HB1.out.trans (h2.mono HB1.out.size))
 clear h2 hpp c0 d0 c1 d1 c2 d2 c3 d3 c4 d4 c8 d8 c9 d9
 go_wp2_with fail
 go_ret
 exact⟨by rw [HA.out,qk,qsg,qtx,qst,qcp,qd,qo];rfl,HB2.out⟩
theorem gk1 (sg tx st:Int) (cp:Bool) (key:K) (d o:Int) (pg:Pg):z1n ⟨1,sg,tx,st,cp,key,d,o,pg⟩=((sg != 0) && z0p 4 4 pg && decide ((⟨1,sg,tx,st,cp,key,d,o,pg⟩:Rx)=⟨1,sg,0,0,false,(0,0,0),0,0,pg⟩)):=by
 rw [Bool.eq_iff_iff]
 simp [z1n,kOk,kS,kT,kB,kA,kO,kP,stepB,addB,outB,progB]
 grind
theorem gk2 (sg tx st:Int) (cp:Bool) (key:K) (d o:Int) (pg:Pg):z1n ⟨2,sg,tx,st,cp,key,d,o,pg⟩=((sg != 0) && (tx != 0) && decide (st<5) && decide ((⟨2,sg,tx,st,cp,key,d,o,pg⟩:Rx)=⟨2,sg,tx,st,cp,(0,0,0),0,0,noP⟩)):=by
 rw [Bool.eq_iff_iff]
 simp [z1n,kOk,kS,kT,kB,kA,kO,kP,stepB,addB,outB,progB]
 grind
theorem gk3 (sg tx st:Int) (cp:Bool) (key:K) (d o:Int) (pg:Pg) (hd:In64 d):z1n ⟨3,sg,tx,st,cp,key,d,o,pg⟩=((tx != 0) && goodB 4 4 key.1 key.2.1 key.2.2 && (d != 0) && decide (-9223372036854775807≤d) && decide ((⟨3,sg,tx,st,cp,key,d,o,pg⟩:Rx)=⟨3,0,tx,0,false,key,d,0,noP⟩)):=by
 have h1:=hd.1
 have h2:(d != -9223372036854775808)=decide (-9223372036854775807≤d):=by
  rw [Bool.eq_iff_iff];simp;omega
 rw [Bool.eq_iff_iff]
 simp [z1n,kOk,kS,kT,kB,kA,kO,kP,stepB,addB,outB,progB,h2]
 grind
theorem gk6 (sg tx st:Int) (cp:Bool) (key:K) (d o:Int) (pg:Pg) (hd:In64 d):z1n ⟨6,sg,tx,st,cp,key,d,o,pg⟩=((tx != 0) && goodB 4 4 key.1 key.2.1 key.2.2 && (d != 0) && decide (-9223372036854775807≤d) && decide ((⟨6,sg,tx,st,cp,key,d,o,pg⟩:Rx)=⟨6,0,tx,0,false,key,d,0,noP⟩)):=by
 have h1:=hd.1
 have h2:(d != -9223372036854775808)=decide (-9223372036854775807≤d):=by
  rw [Bool.eq_iff_iff];simp;omega
 rw [Bool.eq_iff_iff]
 simp [z1n,kOk,kS,kT,kB,kA,kO,kP,stepB,addB,outB,progB,h2]
 grind
theorem gk4 (k sg tx st:Int) (cp:Bool) (key:K) (d o:Int) (pg:Pg) (hk:k=4∨k=5∨k=7):z1n ⟨k,sg,tx,st,cp,key,d,o,pg⟩=((tx != 0) && decide ((⟨k,sg,tx,st,cp,key,d,o,pg⟩:Rx)=⟨k,0,tx,0,false,(0,0,0),0,0,noP⟩)):=by
 rw [Bool.eq_iff_iff]
 rcases hk with rfl | rfl | rfl <;> simp [z1n,kOk,kS,kT,kB,kA,kO,kP,stepB,addB,outB,progB] <;> grind
theorem gk8 (sg tx st:Int) (cp:Bool) (key:K) (d o:Int) (pg:Pg):z1n ⟨8,sg,tx,st,cp,key,d,o,pg⟩=((sg != 0) && decide ((⟨8,sg,tx,st,cp,key,d,o,pg⟩:Rx)=⟨8,sg,0,0,false,(0,0,0),0,0,noP⟩)):=by
 rw [Bool.eq_iff_iff]
 simp [z1n,kOk,kS,kT,kB,kA,kO,kP,stepB,addB,outB,progB]
 grind
theorem gk9 (sg tx st:Int) (cp:Bool) (key:K) (d o:Int) (pg:Pg):z1n ⟨9,sg,tx,st,cp,key,d,o,pg⟩=((sg != 0) && ((o==1) || (o==2)) && decide ((⟨9,sg,tx,st,cp,key,d,o,pg⟩:Rx)=⟨9,sg,0,0,false,(0,0,0),0,o,noP⟩)):=by
 rw [Bool.eq_iff_iff]
 simp [z1n,kOk,kS,kT,kB,kA,kO,kP,stepB,addB,outB,progB]
 grind
end Go.Proofs.YtclbkfpbdidaiaaGreatDoor
