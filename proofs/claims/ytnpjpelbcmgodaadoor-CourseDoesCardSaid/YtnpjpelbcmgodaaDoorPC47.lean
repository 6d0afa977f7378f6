import Derived.Test.YtnpjpelbcmgodaaDoorPC44
import Derived.Test.YtnpjpelbcmgodaaDoorPC46
import Derived.Test.YtnpjpelbcmgodaaDoorPC38
namespace Go.Proofs.YtnpjpelbcmgodaaDoor
open Go.Lib (hid)
set_option maxHeartbeats 16000000
open Go.RowKit Go.ChangeShapes Go.WideShapes
set_option linter.unusedVariables false
set_option linter.unusedSimpArgs false
set_option maxRecDepth 10000
theorem z8f {w:World} {c:Cv} {L:List Ln} {T:List Tk} {M:List Ln} (h:CvM w c L T M):c.p.ln=L.length∧c.p.tn=T.length∧c.p.wn=M.length:=⟨h.l.len.symm,h.t.len.symm,h.o.len.symm⟩
theorem appX_P (c:Crs) (X:Rx):(appX c X).1.P=c.P:=by
 unfold appX
 split
 · rfl
 split
 · rfl
 split
 · rfl
 · unfold z4a
   split
   · rfl
   split
   · rfl
   split
   · rfl
   split
   · rfl
   split <;> rfl
theorem law_cdoes (c:Cv) (L:List Ln) (T:List Tk) (M:List Ln) (r:Rv) (La:List Ln) (Ta:List Tk) (Ma:List Ln) (W:World) (hw:Words W) (hP:CvM W c L T M) (hok:Crok (c.x L T M)) (hR:RvM W r La Ta Ma) (hrk:Rxok (r.x La Ta Ma)):Calls Tryd.prog 3 #[.agg (ccs c),.agg (rcs r)] W fun e w'=>e=.returned (.bool true)∧Below W.heap.size W w':=by
 obtain⟨W1,hW1,hx,hy,hb1⟩:∃ W1,(W.alloc (.cells (ccs c) 28)).alloc (.cells (rcs r) 32)=W1∧CB W1 W.heap.size c∧RB W1 (W.heap.size+1) r∧Below W.heap.size W W1:=z8g W c r
 obtain⟨B,hB⟩:∃ B,W.heap.size=B:=⟨_,rfl⟩
 rw [hB] at hx hy
 have HX:=hid hx
 have HY:=hid hy
 have HW1:=hid hW1
 have HB1:=hid hb1
 have HRE:=hid hB
 have HV:=hid fun w' (hb:Below W.heap.size W w')=>hw.later hb
 have HP:=hid fun w' (hb:Below W.heap.size W w')=>PgM.later hP hb
 have HRM:=hid fun w' (hb:Below W.heap.size W w')=>PgM.later hR hb
 have HOK:=hid hok
 have HRK:=hid hrk
 have hf1:=z8q c tv0 W1
 have hf2:∀ w,Calls Tryd.prog 7 #[.agg (pcs r)] w fun e w'=>e=.returned (.int .i64 (fewI r.ln r.tn r.wn))∧Below w.heap.size w w':=fun w=>few_p r.pk r.od r.po r.lp r.ln r.lcp r.tp r.tn r.tcp r.wp r.wn r.wcp r.sk r.fr r.to r.q w
 have HLR:Hid (r.ln=La.length∧r.tn=Ta.length∧r.wn=Ma.length):=hid ⟨hR.l.len.symm,hR.t.len.symm,hR.o.len.symm⟩
 have HLC:=hid (z8f hP)
 clear hW1 hx hy hb1 hB hw hP hok hR hrk
 cases q1:fewC c tv0 with
 | false =>
  rw [q1] at hf1
  clear hf2 q1
  go_enter Tryd.func3,Tryd.ntmps3
  go_upto_region 1 with (fail)
  rw [HW1.out,HRE.out]
  go_wp2_with ((with_reducible refine z0e HX.out ?_ ?_);rfl)
  refine hf1.mono ?_
  rintro e w2 ⟨rfl,h2⟩
  have HX2:=hid (HX.out.later h2)
  have HY2:=hid (HY.out.later h2)
  have HB2:=hid (HB1.out.trans (h2.mono HB1.out.size))
  clear h2 hf1
  go_wp2_with fail
  refine (z4n w2 (HV.out _ HB2.out)).mono ?_
  rintro e w3 ⟨rfl,h3⟩
  have HB3:=hid (HB2.out.trans (h3.mono HB2.out.size))
  clear h3
  go_wp2_with fail
  go_ret
  exact⟨rfl,HB3.out⟩
 | true =>
  rw [q1] at hf1
  have HS1:=hid (z5r q1)
  by_cases q2:r.ln≤20∧r.tn≤30∧r.wn≤20
  case neg =>
   rw [show fewI r.ln r.tn r.wn=0 from if_neg q2] at hf2
   clear q1 q2
   go_enter Tryd.func3,Tryd.ntmps3
   go_upto_region 1 with (fail)
   rw [HW1.out,HRE.out]
   go_wp2_with ((with_reducible refine z0e HX.out ?_ ?_);rfl)
   refine hf1.mono ?_
   rintro e w2 ⟨rfl,h2⟩
   have HX2:=hid (HX.out.later h2)
   have HY2:=hid (HY.out.later h2)
   have HB2:=hid (HB1.out.trans (h2.mono HB1.out.size))
   clear h2 hf1
   go_wp2_with ((with_reducible refine z0f HY2.out ?_ ?_ ?_);rfl;rfl)
   refine (hf2 w2).mono ?_
   rintro e w3 ⟨rfl,h3⟩
   have HX3:=hid (HX2.out.later h3)
   have HY3:=hid (HY2.out.later h3)
   have HB3:=hid (HB2.out.trans (h3.mono HB2.out.size))
   clear h3 hf2 HX2 HY2
   go_wp2_with fail
   refine (z4n w3 (HV.out _ HB3.out)).mono ?_
   rintro e w4 ⟨rfl,h4⟩
   have HB4:=hid (HB3.out.trans (h4.mono HB3.out.size))
   clear h4
   go_wp2_with fail
   go_ret
   exact⟨rfl,HB4.out⟩
  case pos =>
   rw [show fewI r.ln r.tn r.wn=1 from if_pos q2] at hf2
   have hz1:c.p.ln≤400∧c.p.tn≤400∧c.p.wn≤400:=by have:=HS1.out;omega
   have hz2:r.ln≤400∧r.tn≤400∧r.wn≤400:=by omega
   have HZ1:=hid hz1
   have HZR:=hid hz2
   have HXP:Hid ((appX (c.x L T M) (r.x La Ta Ma)).1.P=c.p.pg L T M):=hid (by rw [appX_P];rfl)
   have HSP:Hid ((z2z (r.x La Ta Ma)).1.P=r.pg La Ta Ma∨(z2z (r.x La Ta Ma)).1.P=noP):=hid (by
    unfold z2z
    split
    · exact .inl rfl
    · exact .inr rfl)
   clear q1 q2 hz1 hz2 HS1
   go_enter Tryd.func3,Tryd.ntmps3
   go_upto_region 1 with (fail)
   rw [HW1.out,HRE.out]
   go_wp2_with ((with_reducible refine z0e HX.out ?_ ?_);rfl)
   refine hf1.mono ?_
   rintro e w2 ⟨rfl,h2⟩
   have HX2:=hid (HX.out.later h2)
   have HY2:=hid (HY.out.later h2)
   have HB2:=hid (HB1.out.trans (h2.mono HB1.out.size))
   clear h2 hf1
   go_wp2_with ((with_reducible refine z0f HY2.out ?_ ?_ ?_);rfl;rfl)
   refine (hf2 w2).mono ?_
   rintro e w3 ⟨rfl,h3⟩
   have HX3:=hid (HX2.out.later h3)
   have HY3:=hid (HY2.out.later h3)
   have HB3:=hid (HB2.out.trans (h3.mono HB2.out.size))
   clear h3 hf2 HX2 HY2
   go_upto_region 3 with (fail)
   have ha:=cr_apply c L T M w3 (HV.out _ HB3.out) (HP.out _ HB3.out) HOK.out HZ1.out r La Ta Ma (HRM.out _ HB3.out) HRK.out HZR.out
   go_wp2_with (first | ((with_reducible refine z0e HX3.out ?_ ?_);rfl) | ((with_reducible refine z0u HY3.out ?_ ?_);rfl))
   refine (ha).mono ?_
   rintro e w4a ⟨d,Ld,Td,Md,rfl,hmd,hxd,h4a⟩
   have HX4a:=hid (HX3.out.later h4a)
   have HY4a:=hid (HY3.out.later h4a)
   have HB4a:=hid (HB3.out.trans (h4a.mono HB3.out.size))
   have HMd:=hid hmd
   have HXEd:=hid hxd
   clear h4a hmd hxd HX3 HY3 HB3
   obtain⟨hc4,hb4⟩:=z5t w4a d
   obtain⟨w4,hw4⟩:∃ w4,(w4a.alloc (.cells #[.int .u32 0,.int .u8 0,.int .u32 0,.int .u8 0,.slice none 0 0,.slice none 0 0,.slice none 0 0,.int .u8 0,.int .u8 0,.int .u8 0,.int .i64 0,.bool false,.int .i64 0,.int .i64 0,.int .u32 0] 28)).setRow w4a.heap.size (ccs d)=w4:=⟨_,rfl⟩
   obtain⟨D,hD⟩:∃ D,w4a.heap.size=D:=⟨_,rfl⟩
   have hz4a:CB (w4a.alloc (.cells #[.int .u32 0,.int .u8 0,.int .u32 0,.int .u8 0,.slice none 0 0,.slice none 0 0,.slice none 0 0,.int .u8 0,.int .u8 0,.int .u8 0,.int .i64 0,.bool false,.int .i64 0,.int .i64 0,.int .u32 0] 28)) w4a.heap.size cz:=CB.new w4a cz
   rw [hw4] at hc4 hb4
   rw [hD] at hc4
   have HZ4a:=hid hz4a
   have HW4:=hid hw4
   have HDD:=hid hD
   have HD4:=hid hc4
   have HX4:=hid (HX4a.out.later hb4)
   have HY4:=hid (HY4a.out.later hb4)
   have HB4:=hid (HB4a.out.trans (hb4.mono HB4a.out.size))
   have HMWd4:=hid (PgM.later HMd.out hb4)
   clear hb4 hc4 hw4 hD hz4a HMd HX4a HY4a HB4a
   go_upto_region 4 with ((with_reducible refine z0j d HZ4a.out ?_ ?_ ?_);rfl;rfl)
   rw [HW4.out,HDD.out]
   clear HZ4a HW4 HDD
   clear ha
   have ha:=cr_rapply c L T M w4 (HP.out _ HB4.out) HOK.out HZ1.out r La Ta Ma (HRM.out _ HB4.out) HRK.out HZR.out
   go_wp2_with (first | ((with_reducible refine z0e HX4.out ?_ ?_);rfl) | ((with_reducible refine z0u HY4.out ?_ ?_);rfl))
   refine (ha).mono ?_
   rintro e w5a ⟨x,Lx,Tx,Mx,rfl,hmx,hxx,h5a⟩
   have HX5a:=hid (HX4.out.later h5a)
   have HY5a:=hid (HY4.out.later h5a)
   have HD5a:=hid (HD4.out.later h5a)
   have HB5a:=hid (HB4.out.trans (h5a.mono HB4.out.size))
   have HMWd5a:=hid (PgM.later HMWd4.out h5a)
   have HMx:=hid hmx
   have HXEx:=hid hxx
   clear h5a hmx hxx HX4 HY4 HD4 HMWd4 HB4
   obtain⟨hc5,hb5⟩:=z5t w5a x
   obtain⟨w5,hw5⟩:∃ w5,(w5a.alloc (.cells #[.int .u32 0,.int .u8 0,.int .u32 0,.int .u8 0,.slice none 0 0,.slice none 0 0,.slice none 0 0,.int .u8 0,.int .u8 0,.int .u8 0,.int .i64 0,.bool false,.int .i64 0,.int .i64 0,.int .u32 0] 28)).setRow w5a.heap.size (ccs x)=w5:=⟨_,rfl⟩
   obtain⟨E,hE⟩:∃ E,w5a.heap.size=E:=⟨_,rfl⟩
   have hz5a:CB (w5a.alloc (.cells #[.int .u32 0,.int .u8 0,.int .u32 0,.int .u8 0,.slice none 0 0,.slice none 0 0,.slice none 0 0,.int .u8 0,.int .u8 0,.int .u8 0,.int .i64 0,.bool false,.int .i64 0,.int .i64 0,.int .u32 0] 28)) w5a.heap.size cz:=CB.new w5a cz
   rw [hw5] at hc5 hb5
   rw [hE] at hc5
   have HZ5a:=hid hz5a
   have HW5:=hid hw5
   have HEE:=hid hE
   have HE5:=hid hc5
   have HX5:=hid (HX5a.out.later hb5)
   have HY5:=hid (HY5a.out.later hb5)
   have HD5:=hid (HD5a.out.later hb5)
   have HB5:=hid (HB5a.out.trans (hb5.mono HB5a.out.size))
   have HMWd5:=hid (PgM.later HMWd5a.out hb5)
   have HMWx5:=hid (PgM.later HMx.out hb5)
   clear hb5 hc5 hw5 hE hz5a HMx HX5a HY5a HD5a HMWd5a HB5a
   go_upto_region 5 with ((with_reducible refine z0j x HZ5a.out ?_ ?_ ?_);rfl;rfl)
   rw [HW5.out,HEE.out]
   clear HZ5a HW5 HEE
   clear ha
   have ha:=cr_start r La Ta Ma w5 (HV.out _ HB5.out) (HRM.out _ HB5.out) HRK.out HZR.out
   go_wp2_with (first | ((with_reducible refine z0u HY5.out ?_ ?_);rfl))
   refine (ha).mono ?_
   rintro e w6a ⟨s,Ls,Ts,Ms,rfl,hms,hxs,h6a⟩
   have HX6a:=hid (HX5.out.later h6a)
   have HY6a:=hid (HY5.out.later h6a)
   have HD6a:=hid (HD5.out.later h6a)
   have HE6a:=hid (HE5.out.later h6a)
   have HB6a:=hid (HB5.out.trans (h6a.mono HB5.out.size))
   have HMWd6a:=hid (PgM.later HMWd5.out h6a)
   have HMWx6a:=hid (PgM.later HMWx5.out h6a)
   have HMs:=hid hms
   have HXEs:=hid hxs
   clear h6a hms hxs HX5 HY5 HD5 HE5 HMWd5 HMWx5 HB5
   obtain⟨hc6,hb6⟩:=z5t w6a s
   obtain⟨w6,hw6⟩:∃ w6,(w6a.alloc (.cells #[.int .u32 0,.int .u8 0,.int .u32 0,.int .u8 0,.slice none 0 0,.slice none 0 0,.slice none 0 0,.int .u8 0,.int .u8 0,.int .u8 0,.int .i64 0,.bool false,.int .i64 0,.int .i64 0,.int .u32 0] 28)).setRow w6a.heap.size (ccs s)=w6:=⟨_,rfl⟩
   obtain⟨F,hF⟩:∃ F,w6a.heap.size=F:=⟨_,rfl⟩
   have hz6a:CB (w6a.alloc (.cells #[.int .u32 0,.int .u8 0,.int .u32 0,.int .u8 0,.slice none 0 0,.slice none 0 0,.slice none 0 0,.int .u8 0,.int .u8 0,.int .u8 0,.int .i64 0,.bool false,.int .i64 0,.int .i64 0,.int .u32 0] 28)) w6a.heap.size cz:=CB.new w6a cz
   rw [hw6] at hc6 hb6
   rw [hF] at hc6
   have HZ6a:=hid hz6a
   have HW6:=hid hw6
   have HFF:=hid hF
   have HF6:=hid hc6
   have HX6:=hid (HX6a.out.later hb6)
   have HY6:=hid (HY6a.out.later hb6)
   have HD6:=hid (HD6a.out.later hb6)
   have HE6:=hid (HE6a.out.later hb6)
   have HB6:=hid (HB6a.out.trans (hb6.mono HB6a.out.size))
   have HMWd6:=hid (PgM.later HMWd6a.out hb6)
   have HMWx6:=hid (PgM.later HMWx6a.out hb6)
   have HMWs6:=hid (PgM.later HMs.out hb6)
   clear hb6 hc6 hw6 hF hz6a HMs HX6a HY6a HD6a HE6a HMWd6a HMWx6a HB6a
   go_upto_region 6 with ((with_reducible refine z0j s HZ6a.out ?_ ?_ ?_);rfl;rfl)
   rw [HW6.out,HFF.out]
   clear HZ6a HW6 HFF
   clear ha
   have ha:=cr_rstart r La Ta Ma w6 (HRM.out _ HB6.out) HRK.out HZR.out
   go_wp2_with (first | ((with_reducible refine z0u HY6.out ?_ ?_);rfl))
   refine (ha).mono ?_
   rintro e w7a ⟨y,Ly,Ty,My,rfl,hmy,hxy,h7a⟩
   have HX7a:=hid (HX6.out.later h7a)
   have HY7a:=hid (HY6.out.later h7a)
   have HD7a:=hid (HD6.out.later h7a)
   have HE7a:=hid (HE6.out.later h7a)
   have HF7a:=hid (HF6.out.later h7a)
   have HB7a:=hid (HB6.out.trans (h7a.mono HB6.out.size))
   have HMWd7a:=hid (PgM.later HMWd6.out h7a)
   have HMWx7a:=hid (PgM.later HMWx6.out h7a)
   have HMWs7a:=hid (PgM.later HMWs6.out h7a)
   have HMy:=hid hmy
   have HXEy:=hid hxy
   clear h7a hmy hxy HX6 HY6 HD6 HE6 HF6 HMWd6 HMWx6 HMWs6 HB6
   obtain⟨hc7,hb7⟩:=z5t w7a y
   obtain⟨w7,hw7⟩:∃ w7,(w7a.alloc (.cells #[.int .u32 0,.int .u8 0,.int .u32 0,.int .u8 0,.slice none 0 0,.slice none 0 0,.slice none 0 0,.int .u8 0,.int .u8 0,.int .u8 0,.int .i64 0,.bool false,.int .i64 0,.int .i64 0,.int .u32 0] 28)).setRow w7a.heap.size (ccs y)=w7:=⟨_,rfl⟩
   obtain⟨I,hI⟩:∃ I,w7a.heap.size=I:=⟨_,rfl⟩
   have hz7a:CB (w7a.alloc (.cells #[.int .u32 0,.int .u8 0,.int .u32 0,.int .u8 0,.slice none 0 0,.slice none 0 0,.slice none 0 0,.int .u8 0,.int .u8 0,.int .u8 0,.int .i64 0,.bool false,.int .i64 0,.int .i64 0,.int .u32 0] 28)) w7a.heap.size cz:=CB.new w7a cz
   rw [hw7] at hc7 hb7
   rw [hI] at hc7
   have HZ7a:=hid hz7a
   have HW7:=hid hw7
   have HII:=hid hI
   have HI7:=hid hc7
   have HX7:=hid (HX7a.out.later hb7)
   have HY7:=hid (HY7a.out.later hb7)
   have HD7:=hid (HD7a.out.later hb7)
   have HE7:=hid (HE7a.out.later hb7)
   have HF7:=hid (HF7a.out.later hb7)
   have HB7:=hid (HB7a.out.trans (hb7.mono HB7a.out.size))
   have HMWd7:=hid (PgM.later HMWd7a.out hb7)
   have HMWx7:=hid (PgM.later HMWx7a.out hb7)
   have HMWs7:=hid (PgM.later HMWs7a.out hb7)
   have HMWy7:=hid (PgM.later HMy.out hb7)
   clear hb7 hc7 hw7 hI hz7a HMy HX7a HY7a HD7a HE7a HF7a HMWd7a HMWx7a HMWs7a HB7a
   go_upto_region 7 with ((with_reducible refine z0j y HZ7a.out ?_ ?_ ?_);rfl;rfl)
   rw [HW7.out,HII.out]
   clear HZ7a HW7 HII
   clear ha
   have hle:d.x Ld Td Md=x.x Lx Tx Mx:=HXEd.out.trans HXEx.out.symm
   have hls:s.x Ls Ts Ms=y.x Ly Ty My:=HXEs.out.trans HXEy.out.symm
   have hpd:d.p.pg Ld Td Md=c.p.pg L T M:=(congrArg Crs.P HXEd.out).trans HXP.out
   have hpx:x.p.pg Lx Tx Mx=c.p.pg L T M:=(congrArg Crs.P HXEx.out).trans HXP.out
   have lmd:d.p.ln≤400∧d.p.tn≤400∧d.p.wn≤400:=by
    obtain⟨a1,a2,a3⟩:=z8f HMWd7.out
    have e1:Ld=L:=congrArg Pg.lines hpd
    have e2:Td=T:=congrArg Pg.takes hpd
    have e3:Md=M:=congrArg Pg.owes hpd
    have:=HLC.out
    have:=HZ1.out
    subst e1 e2 e3
    omega
   have lmx:x.p.ln≤400∧x.p.tn≤400∧x.p.wn≤400:=by
    obtain⟨a1,a2,a3⟩:=z8f HMWx7.out
    have e1:Lx=L:=congrArg Pg.lines hpx
    have e2:Tx=T:=congrArg Pg.takes hpx
    have e3:Mx=M:=congrArg Pg.owes hpx
    have:=HLC.out
    have:=HZ1.out
    subst e1 e2 e3
    omega
   have hany:∀ {z:Cv} {Lz:List Ln} {Tz:List Tk} {Mz:List Ln},CvM w7 z Lz Tz Mz→z.x Lz Tz Mz=(z2z (r.x La Ta Ma)).1→z.p.ln≤400∧z.p.tn≤400∧z.p.wn≤400:=fun {z Lz Tz Mz} hm hz=>by
    obtain⟨a1,a2,a3⟩:=z8f hm
    have hq:z.p.pg Lz Tz Mz=(z2z (r.x La Ta Ma)).1.P:=congrArg Crs.P hz
    have:=HLR.out
    have:=HZR.out
    rcases HSP.out with h | h
    · rw [h] at hq
      have e1:Lz=La:=congrArg Pg.lines hq
      have e2:Tz=Ta:=congrArg Pg.takes hq
      have e3:Mz=Ma:=congrArg Pg.owes hq
      subst e1 e2 e3
      omega
    · rw [h] at hq
      have e1:Lz=[]:=congrArg Pg.lines hq
      have e2:Tz=[]:=congrArg Pg.takes hq
      have e3:Mz=[]:=congrArg Pg.owes hq
      subst e1 e2 e3
      simp at a1 a2 a3
      omega
   have lms:=hany HMWs7.out HXEs.out
   have lmy:=hany HMWy7.out HXEy.out
   have hbp:=fun (p:After w7)=>HB7.out.trans (p.h.mono HB7.out.size)
   have hc1:=fun (p:After w7)=>z7j d x Ld Td Md Lx Tx Mx p.w (PgM.later HMWd7.out p.h) (PgM.later HMWx7.out p.h) lmd lmx
   rw [decide_eq_true hle] at hc1
   have hc2:=fun (p:After w7)=>z7j s y Ls Ts Ms Ly Ty My p.w (PgM.later HMWs7.out p.h) (PgM.later HMWy7.out p.h) lms lmy
   rw [decide_eq_true hls] at hc2
   have hc3:=fun (p:After w7)=>z7l c L T M p.w (HV.out _ (hbp p)) (HP.out _ (hbp p)) HOK.out HZ1.out
   have hc4:=fun (p:After w7)=>z7k c L T M p.w (HP.out _ (hbp p)) HOK.out HZ1.out
   have hc5:=fun (p:After w7)=>z4n p.w (HV.out _ (hbp p))
   generalize z1y (c.x L T M)=z at *
   generalize (appX (c.x L T M) (r.x La Ta Ma)).2=ea at *
   generalize (z2z (r.x La Ta Ma)).2=eb at *
   have hzz:(z==z)=true:=by simp
   have hee:(ea==ea)=true:=by simp
   have hff:(eb==eb)=true:=by simp
   clear hany lms lmy lmd lmx hle hls hpd hpx hbp
   refine z1j (by kernel_rfl) (by kernel_rfl) ?_
   repeat (first | (go_big_quiet_want;(with_reducible refine z1w HX7.out ?_ ?_);rfl;go_simp;go_big_quiet_on) | (go_big_quiet_want;(with_reducible refine z1w HD7.out ?_ ?_);rfl;go_simp;go_big_quiet_on) | (go_big_quiet_want;(with_reducible refine z1w HE7.out ?_ ?_);rfl;go_simp;go_big_quiet_on) | (go_big_quiet_want;(with_reducible refine z1w HF7.out ?_ ?_);rfl;go_simp;go_big_quiet_on) | (go_big_quiet_want;(with_reducible refine z1w HI7.out ?_ ?_);rfl;go_simp;go_big_quiet_on) | go_big_quiet_step (first | (go_at_call 13;first | (with_reducible exact z1d _ (hc1 _)) | (with_reducible exact z1d _ (hc2 _))) | (go_at_call 14;exact z1d _ (hc3 _)) | (go_at_call 15;exact z1d _ (hc4 _)) | (go_at_call 8;exact z1d _ (hc5 _))))
   refine wpQuiet_nil ?_
   intro w8 hw'
   obtain⟨⟨wq,h6⟩,hw''⟩:=hw'
   subst hw''
   clear hc1 hc2 hc3 hc4 hc5
   go_wp2_with fail
   go_ret
   exact⟨rfl,HB7.out.trans (h6.mono HB7.out.size)⟩
end Go.Proofs.YtnpjpelbcmgodaaDoor
