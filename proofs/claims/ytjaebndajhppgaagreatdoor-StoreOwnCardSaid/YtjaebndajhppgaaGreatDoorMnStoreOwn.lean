/-S-/
import Derived.Test.YtjaebndajhppgaaGreatDoorMnSoLaid
set_option linter.unusedVariables false
set_option linter.unusedSimpArgs false
set_option maxRecDepth 100000
set_option maxHeartbeats 8000000
namespace Go.Proofs.YtjaebndajhppgaaGreatDoor
open Go.ChangeShapes Go.WideShapes Go.ChangeAt Go.RowKit
theorem own_cell {w:World} {base:Nat} {e:TypeId} {size:Nat} {v:Value} {n:Nat} {xs:List Value} (h:w.ownsRow base e size v n xs) (hn:0<n):∃ g cap A,v=.slice (some ⟨g,0,none⟩) n cap∧base≤g∧Blk w g A e∧n*size≤A.length∧n≤cap∧cap≤maxLen:=by
 rcases h.2 with ⟨rfl,h0⟩ | ⟨g,cap,cur,rfl,hbg,hg,hnc,hcm,hcs,htake⟩
 · omega
 · refine ⟨g,cap,cur.toList,rfl,hbg,by unfold Blk;rw [Array.toArray_toList];exact hg,?_,hnc,hcm⟩
   rw [Array.length_toList,hcs]
   exact Nat.mul_le_mul_right _ hnc
theorem blk_old {w:World} {b:Nat} {A:List Value} {t:TypeId} (h:Blk w b A t) {o:Nat} (ho:o<A.length):∃ u,w.cell? ⟨b,o,none⟩=some u:=⟨A[o],h.cell (List.getElem?_eq_getElem ho)⟩
theorem storeOwn_any (L:List Tri) (w:World) (v:Value) (hv:TrisAt w v L) (hlow:∀ t∈L,t.low 1000000000000000) (hn:L.length≤140737488351232) (hV:Vars w) (hE:ErrAt w) :
  Calls Tryz.prog 12 #[v] w fun e w'=>e=.returned (.bool true)∧Below w.heap.size w w':=by
 have KN:=hid (fun W h h2=>known_any W h h2)
 obtain ⟨a,cap,rfl,hc1,hc2,hc3⟩:=hv.open
 have HV:=hid hv
 have HVV:=hid hV
 have HE:=hid hE
 have HL:=hid hlow
 have HNL:=hid hn
 obtain ⟨n,hn0⟩:∃ n,n=L.length:=⟨_,rfl⟩
 rw [←hn0] at HV hc1 ⊢
 have hnn:n≤140737488351232:=by omega
 have HN:=hid hn0
 have HC:=hid (And.intro hc1 hc2)
 clear hv hV hE hlow hc1 hc2 hc3 hn0 hn
 go_enter Tryz.func12,Tryz.ntmps12
 go_wp2_with fail
 refine (long11_any L w _ HV.out HL.out HNL.out HVV.out).mono ?_
 rintro e w1 ⟨B,rfl,hB,hb1⟩
 have HB1:=hid hb1
 have HBB:=hid hB
 clear hb1 hB
 cases B with
 | true=>
  go_wp2
  go_ret
  exact ⟨rfl,HB1.out⟩
 | false=>
  obtain ⟨hnl,hmb⟩:=HBB.out rfl
  obtain ⟨M,hM,hMt⟩:=may_nat hmb
  have HM:=hid hMt
  subst hM
  have HNM:=hid (show n=M.length by rw [HN.out,List.length_map])
  clear hnl hmb hMt
  by_cases h30:n≤30
  · have h30z:¬ (30:Int)<(n:Int):=by omega
    by_cases h0:n=0
    · have h0z:((n:Int)==0)=true:=by rw [h0];rfl
      have H0:=hid h0
      clear h0
      go_wp2
      go_ret
      exact ⟨rfl,HB1.out⟩
    · have h0z:((n:Int)==0)=false:=beq_eq_false_iff_ne.2 (by omega)
      have HM30:=hid (show M.length≤30 by rw [←HNM.out];exact h30)
      go_wp2_with fail
      refine (rprint_any M HM.out (by have:=HM30.out;omega) w1 _ (HV.out.keep HB1.out)).mono ?_
      rintro e w2 ⟨rfl,hb2⟩
      have HB2:=hid (below_then HB1.out hb2)
      obtain ⟨P,hP⟩:∃ P,P=Tm.printL M:=⟨_,rfl⟩
      have HP:=hid hP
      have hPm:P.length≤1000000:=by
       have h:=Tm.so_printL_len (L:=M) HM.out
       have:=HM30.out
       rw [hP];omega
      rw [←hP]
      clear hb2 hP
      by_cases hpl:P.length≤20000
      · have hpz:¬ (20000:Int)<(P.length:Int):=by omega
        have RP:=hid (show ∀ W,Below w.heap.size w W→Calls Tryz.prog 21 #[.slice a n cap] W fun e w'=>e=.returned (str P)∧Below W.heap.size W w' from fun W hB=>by
         rw [HP.out];exact rprint_any M HM.out (by have:=HM30.out;omega) W _ (HV.out.keep hB))
        have LP:=hid (show ∀ W,Below w.heap.size w W→Calls Tryz.prog 13 #[str P] W fun e w'=>∃ p,e=.returned (.tuple #[.pointer (some ⟨p,0,none⟩),.int .i64 (M.length:Nat),.int .i64 0])∧IsStore w' p (Tm.rsort M)∧Below W.heap.size W w' from fun W hB=>by
         rw [HP.out];exact load_print M HM.out (by have:=HM30.out;omega) (by rw [←HP.out];exact hpl) W (HVV.out.keep hB) (HE.out.keep hB))
        have SM1:=hid (fun W hB=>rsortR_any M HM.out (by have:=HM30.out;omega) W (.slice a n cap) (HV.out.keep (show Below w.heap.size w W from hB)))
        have HRT:=hid (Tm.rsort_tri HM.out)
        have HRL:=hid (show (Tm.rsort M).length≤100 by have h1:=Tm.rsort_len M;have h2:=HM30.out;omega)
        have HPOS:=hid (show 0<(Tm.rsort M).length by
         obtain ⟨t,ht⟩:∃ t,t∈M:=by
          cases hM:M with
          | nil=>have:=HNM.out;rw [hM] at this;exact absurd this h0
          | cons t l=>exact ⟨t,by simp⟩
         exact List.length_pos_of_mem ((Tm.rsort_mem HM.out t).2 ht))
        obtain ⟨S,hS0⟩:∃ S,S=Tm.rsort M:=⟨_,rfl⟩
        rw [←hS0] at LP SM1 HRT HRL HPOS
        clear hS0
        go_upto_region 3 with fail
        go_wp2_with fail
        refine (RP.out _ HB2.out).mono ?_
        rintro e w3 ⟨rfl,hb⟩
        have HB3:=hid (below_then HB2.out hb)
        clear hb
        go_wp2_with fail
        refine (LP.out _ HB3.out).mono ?_
        rintro e w4 ⟨p,rfl,hS,hb⟩
        have HS4:=hid hS
        have HB4:=hid (below_then HB3.out hb)
        clear hS hb
        go_wp2_with fail
        refine (enc_any S HRT.out HRL.out p w4 HS4.out).mono ?_
        rintro e w5 ⟨v5,rfl,ho,hb⟩
        have HB5:=hid hb
        have HS5:=hid (HS4.out.keep hb)
        obtain ⟨g5,c5,A5,rfl,hg5,hA5,hl5,hc5,hm5⟩:=own_cell ho (So.file_pos S)
        have HA5:=hid hA5
        obtain ⟨n5,hn5⟩:∃ n5,n5=(So.file S).length:=⟨_,rfl⟩
        have hp5:0<n5:=by rw [hn5];exact So.file_pos S
        rw [←hn5] at hl5 hc5 ⊢
        clear hb ho hA5 hn5
        go_wp2_with fail
        refine (stri_any p S (by have:=HRL.out;omega) w5 HS5.out).mono ?_
        rintro e w6 ⟨v6,rfl,_,ho,hb⟩
        have HB6:=hid hb
        have HS6:=hid (HS5.out.keep hb)
        obtain ⟨g6,c6,A6,rfl,hg6,hA6,hl6,hc6,hm6⟩:=own_cell (ho HPOS.out) HPOS.out
        have HA6:=hid hA6
        obtain ⟨n6,hn6⟩:∃ n6,n6=S.length:=⟨_,rfl⟩
        have hp6:0<n6:=by rw [hn6];exact HPOS.out
        rw [←hn6] at hl6 hc6 ⊢
        clear hb ho hA6 hn6
        go_wp2_with fail
        refine (sterms_any p S (by have:=HRL.out;omega) w6 HS6.out).mono ?_
        rintro e w7 ⟨v7,rfl,_,ho,hb⟩
        have HB7:=hid hb
        obtain ⟨g7,c7,A7,rfl,hg7,hA7,hl7,hc7,hm7⟩:=own_cell (ho (So.terms_pos HRT.out HPOS.out)) (So.terms_pos HRT.out HPOS.out)
        have HA7:=hid hA7
        obtain ⟨n7,hn7⟩:∃ n7,n7=(So.terms S).length:=⟨_,rfl⟩
        have hp7:0<n7:=by rw [hn7];exact So.terms_pos HRT.out HPOS.out
        rw [←hn7] at hl7 hc7 ⊢
        clear hb ho hA7 hn7
        have z5:((n5:Int)==0)=false:=beq_eq_false_iff_ne.2 (by omega)
        have z6:((n6:Int)==0)=false:=beq_eq_false_iff_ne.2 (by omega)
        have z7:((n7:Int)==0)=false:=beq_eq_false_iff_ne.2 (by omega)
        have B5:=hid ((HA5.out.keep HB6.out).keep HB7.out)
        have B6:=hid (HA6.out.keep HB7.out)
        have B7:=HA7
        have e56:g5≠g6:=by have:=HA5.out.lt;omega
        have e57:g5≠g7:=by have h1:=(HA5.out.keep HB6.out).lt;omega
        have e67:g6≠g7:=by have:=HA6.out.lt;omega
        obtain ⟨x0,X0⟩:=blk_old B5.out (o:=0) (by omega)
        obtain ⟨y0,Y0⟩:=blk_old B6.out (o:=0) (by omega)
        obtain ⟨y1,Y1⟩:=blk_old B6.out (o:=1) (by omega)
        obtain ⟨y2,Y2⟩:=blk_old B6.out (o:=2) (by omega)
        obtain ⟨y3,Y3⟩:=blk_old B6.out (o:=3) (by omega)
        obtain ⟨y4,Y4⟩:=blk_old B6.out (o:=4) (by omega)
        obtain ⟨y5,Y5⟩:=blk_old B6.out (o:=5) (by omega)
        obtain ⟨y6,Y6⟩:=blk_old B6.out (o:=6) (by omega)
        obtain ⟨y7,Y7⟩:=blk_old B6.out (o:=7) (by omega)
        obtain ⟨y8,Y8⟩:=blk_old B6.out (o:=8) (by omega)
        obtain ⟨q0,Q0⟩:=blk_old B7.out (o:=0) (by omega)
        obtain ⟨q1,Q1⟩:=blk_old B7.out (o:=1) (by omega)
        obtain ⟨q2,Q2⟩:=blk_old B7.out (o:=2) (by omega)
        have F50:=B5.out.free 0
        have F60:=B6.out.free 0
        have F61:=B6.out.free 1
        have F62:=B6.out.free 2
        have F63:=B6.out.free 3
        have F64:=B6.out.free 4
        have F65:=B6.out.free 5
        have F66:=B6.out.free 6
        have F67:=B6.out.free 7
        have F68:=B6.out.free 8
        have F70:=B7.out.free 0
        have F71:=B7.out.free 1
        have F72:=B7.out.free 2
        have i5:(0:Int)<(n5:Int):=by omega
        have i6:(0:Int)<(n6:Int):=by omega
        have i7:(0:Int)<(n7:Int):=by omega
        have HW7:=hid (below_then HB5.out (below_then HB6.out HB7.out))
        go_upto_region 9 with fail
        go_upto_region 10 with fail
        have hsz5:=HB5.out.size
        have hsz6:=HB6.out.size
        have HBz:=hid (show Below w4.heap.size w4 (((((((((((((w7.setCell ⟨g5,0,none⟩ (.int .u8 0)).setCell ⟨g6,0,none⟩ (.int .i64 0)).setCell ⟨g6,1,none⟩ (.string ⟨#[]⟩)).setCell ⟨g6,2,none⟩ (.string ⟨#[]⟩)).setCell ⟨g6,3,none⟩ (.int .i64 0)).setCell ⟨g6,4,none⟩ (.string ⟨#[]⟩)).setCell ⟨g6,5,none⟩ (.string ⟨#[]⟩)).setCell ⟨g6,6,none⟩ (.int .i64 0)).setCell ⟨g6,7,none⟩ (.string ⟨#[]⟩)).setCell ⟨g6,8,none⟩ (.string ⟨#[]⟩)).setCell ⟨g7,0,none⟩ (.int .i64 0)).setCell ⟨g7,1,none⟩ (.string ⟨#[]⟩)).setCell ⟨g7,2,none⟩ (.string ⟨#[]⟩)) from ((((((((((((HW7.out.setCell (by show w4.heap.size≤g5;omega) _).setCell (by show w4.heap.size≤g6;omega) _).setCell (by show w4.heap.size≤g6;omega) _).setCell (by show w4.heap.size≤g6;omega) _).setCell (by show w4.heap.size≤g6;omega) _).setCell (by show w4.heap.size≤g6;omega) _).setCell (by show w4.heap.size≤g6;omega) _).setCell (by show w4.heap.size≤g6;omega) _).setCell (by show w4.heap.size≤g6;omega) _).setCell (by show w4.heap.size≤g6;omega) _).setCell (by show w4.heap.size≤g7;omega) _).setCell (by show w4.heap.size≤g7;omega) _).setCell (by show w4.heap.size≤g7;omega) _)
        obtain ⟨wz,hwz⟩:∃ wz,wz=((((((((((((w7.setCell ⟨g5,0,none⟩ (.int .u8 0)).setCell ⟨g6,0,none⟩ (.int .i64 0)).setCell ⟨g6,1,none⟩ (.string ⟨#[]⟩)).setCell ⟨g6,2,none⟩ (.string ⟨#[]⟩)).setCell ⟨g6,3,none⟩ (.int .i64 0)).setCell ⟨g6,4,none⟩ (.string ⟨#[]⟩)).setCell ⟨g6,5,none⟩ (.string ⟨#[]⟩)).setCell ⟨g6,6,none⟩ (.int .i64 0)).setCell ⟨g6,7,none⟩ (.string ⟨#[]⟩)).setCell ⟨g6,8,none⟩ (.string ⟨#[]⟩)).setCell ⟨g7,0,none⟩ (.int .i64 0)).setCell ⟨g7,1,none⟩ (.string ⟨#[]⟩)).setCell ⟨g7,2,none⟩ (.string ⟨#[]⟩):=⟨_,rfl⟩
        show Code.wp _ _ _ _ (((((((((((((w7.setCell ⟨g5,0,none⟩ (.int .u8 0)).setCell ⟨g6,0,none⟩ (.int .i64 0)).setCell ⟨g6,1,none⟩ (.string ⟨#[]⟩)).setCell ⟨g6,2,none⟩ (.string ⟨#[]⟩)).setCell ⟨g6,3,none⟩ (.int .i64 0)).setCell ⟨g6,4,none⟩ (.string ⟨#[]⟩)).setCell ⟨g6,5,none⟩ (.string ⟨#[]⟩)).setCell ⟨g6,6,none⟩ (.int .i64 0)).setCell ⟨g6,7,none⟩ (.string ⟨#[]⟩)).setCell ⟨g6,8,none⟩ (.string ⟨#[]⟩)).setCell ⟨g7,0,none⟩ (.int .i64 0)).setCell ⟨g7,1,none⟩ (.string ⟨#[]⟩)).setCell ⟨g7,2,none⟩ (.string ⟨#[]⟩))
        rw [←hwz] at HBz ⊢
        clear hwz X0 Y0 Y1 Y2 Y3 Y4 Y5 Y6 Y7 Y8 Q0 Q1 Q2 F50 F60 F61 F62 F63 F64 F65 F66 F67 F68 F70 F71 F72 B5 B6 B7 HA5 HA6 HA7 HW7 hsz5 hsz6
        have HSz:=hid (HS4.out.keep HBz.out)
        have HBw:=hid (below_then HB4.out HBz.out)
        go_wp2_with fail
        refine (SM1.out _ HBw.out).mono ?_
        rintro e w9 ⟨v9,rfl,hv9,hb⟩
        obtain ⟨a9,c9,rfl,_,_,_⟩:=hv9.open
        rw [List.length_map] at hv9 ⊢
        obtain ⟨n9,hn9⟩:∃ n9,n9=S.length:=⟨_,rfl⟩
        rw [←hn9] at hv9 ⊢
        clear hn9
        have HV9:=hid hv9
        have HS9:=hid (HSz.out.keep hb)
        have HB9:=hid (below_then HBw.out hb)
        clear hv9 hb
        go_wp2_with fail
        refine (rof_any S HRT.out (by have:=HRL.out;omega) w9 _ HV9.out).mono ?_
        rintro e w10 ⟨q,rfl,hR,hb⟩
        have HR10:=hid hR
        have HS10:=hid (HS9.out.keep hb)
        have HB10:=hid (below_then HB9.out hb)
        clear hR hb
        go_wp2_with fail
        refine (alike_any S HRT.out HRL.out p q w10 HS10.out HR10.out).mono ?_
        rintro e w11 ⟨rfl,hb⟩
        have HB11:=hid (below_then HB10.out hb)
        clear hb
        go_wp2_with fail
        refine (KN.out _ (HVV.out.keep HB11.out) (HE.out.keep HB11.out)).mono ?_
        rintro e w12 ⟨rfl,hb⟩
        have HB12:=hid (below_then HB11.out hb)
        clear hb
        go_wp2
        go_ret
        exact ⟨rfl,HB12.out⟩
      · have hpz:(20000:Int)<(P.length:Int):=by omega
        go_wp2
        go_ret
        exact ⟨rfl,HB2.out⟩
  · have h30z:(30:Int)<(n:Int):=by omega
    go_wp2
    go_ret
    exact ⟨rfl,HB1.out⟩
theorem storeOwn_walk (H:Type) (enc:TypeId×Value→H) (W:World) (base:Nat) (args:Array Value) (ds gs:List (DataW H)) (before:List MemPlace)
  (hval:∀ (j:Nat) t v,Tryz.f12.params[j]?=some t→args[j]?=some v→Value.okWide Tryz.prog W .any base t v)
  (hW:DataW.Whole enc Tryz.prog Tryz.f12.params.toList Rows.storeOwnSpec.vars false W args.toList ds gs before)
  (hz:(DataW.weightsEach Tryz.prog (Tryz.f12.params.toList++Rows.storeOwnSpec.plain.varTypes Tryz.prog) (ds++gs)).all (·≤reachBytes)=true)
  (hL:laidMetH Tryz.prog Rows.storeOwnRow.laid W) (hsh:W.ShapedOpen Tryz.prog) :
  Calls Tryz.prog 12 args W fun e W'=>e=.returned (.bool true)∧Below W.heap.size W W':=by
 obtain ⟨p,q,hA,_,_,_,_⟩:=hW
 rw [Tryz.params12] at hA hval
 rw [Tryz.params12] at hz
 obtain ⟨v0,vs0,d0,ds0,p0,q0,hargs,rfl,rfl,h0,r0⟩:=trodAll_cons hA
 obtain ⟨rfl,rfl,rfl⟩:=trodAll_nil r0
 obtain rfl:args=#[v0]:=by cases args;simp_all
 obtain ⟨l0,L0,b0,z0⟩:=arg_tris (hval 0 39 v0 rfl rfl) h0 (sized_arg hz (j:=0) (t:=39) (d:=d0) rfl rfl)
 obtain ⟨hV,hE⟩:=vars5_of hL hsh
 exact storeOwn_any l0 W v0 L0 b0 z0 hV hE
theorem storeOwn_lifted (os:Os) (started:os.Started) (H:Type) (enc:TypeId×Value→H) (F:Stop.Interp) :
  ReturnsInHanded {} Tryz.checked os 12 .any ((OpenSpec.ofChange Rows.storeOwnSpec).preRow enc Tryz.prog Tryz.f12 Rows.storeOwnRow.domain false Rows.storeOwnRow.laid) (((OpenSpec.ofChange Rows.storeOwnSpec).at F).post enc Tryz.prog Tryz.f12 false true false false):=by
 obtain ⟨places,hx⟩:∃ places,DataW.whole enc Tryz.prog ((laidWorld os).forCall (fun _ _=>0) ⟨#[],#[.slice none 0 0],[]⟩).memory Tryz.f12.params.toList Rows.storeOwnSpec.vars false (#[.slice none 0 0]:Array Value).toList 8=some ([.nil],[],places):=⟨[],by kernel_rfl⟩
 refine returnsInHanded_of_row (C:=Tryz.checked) (s:=OpenSpec.ofChange Rows.storeOwnSpec) own started (by kernel_rfl) Tryz.func12
  (witness_shaped_row (enc:=enc) (C:=Tryz.checked) false (laidWorld os) #[.slice none 0 0] (World.laidAll_os _ _ _) (World.shaped_of_ZipB (by kernel_rfl) (by kernel_rfl)) (by kernel_rfl)
    (OpenSpec.preRow_of_cond 8 hx (by kernel_rfl) (fun k hk=>by cases hk) (by kernel_rfl) (laid_met os _))) ?_
 intro W base args ds gs before hval hW _ _ hz hL hsh _
 refine (storeOwn_walk H enc W base args ds gs before hval hW hz hL hsh).mono fun e W' ⟨he,hb⟩=>⟨_,he,?_⟩
 exact law_post (fn:=Tryz.f12) (s:=Rows.storeOwnSpec) (tb:=4) rfl (fun ds hd=>by match ds,hd with | [d0],_=>rfl) rfl Tryz.underlying4 (by kernel_rfl) hW hb
theorem and_tt {a b:Bool} (h:a=true) (k:b=true):(a && b)=true:=by rw [h,k];rfl
theorem storeOwn_closed:joinedFacts Tryz.pinned.checked.prog 12 Tryz.f12 (OpenSpec.ofChange Rows.storeOwnSpec).bare Rows.storeOwnRow=true:=by
 unfold joinedFacts
 repeat' (with_reducible refine and_tt ?_ ?_)
 all_goals as_aux_lemma=>kernel_rfl
theorem storeOwn_said:Rows.StoreOwnSaid:=
 OpenClaim.holds_of_cond 12 Tryz.f12 rfl rfl rfl rfl rfl rfl rfl ⟨rfl,rfl,rfl,rfl,rfl⟩ rfl rfl rfl rfl rfl (by kernel_rfl) Tryz.func12 storeOwn_closed
  (of_decide_eq_true (by kernel_rfl)) (by unfold Func.isWrapper;first | (rw [if_pos (by decide +kernel)];kernel_rfl) | (rw [if_neg (by decide +kernel)];exact ⟨rfl,rfl⟩))
  (fun os started H enc _ F=>by rw [OpenClaim.pre_eq_preRow];exact storeOwn_lifted os started H enc F)
theorem storeOwn_plain (f:FuncId) (fn:Func) (hf:Tryz.pinned.checked.prog.funcNamed Rows.storeOwnRow.func=some f) (hfn:Tryz.pinned.checked.prog.funcs[f]?=some fn) :
  true=Tryz.pinned.checked.prog.looks []∧∀ (j:Nat) t,fn.params[j]?=some t→Tryz.pinned.checked.prog.wantsStandIn t=false:=by
 obtain rfl:f=12:=Option.some.inj ((show Tryz.prog.funcNamed Rows.storeOwnRow.func=some 12 by kernel_rfl).symm.trans hf) |>.symm
 obtain rfl:fn=Tryz.f12:=(Option.some.inj (Tryz.func12.symm.trans hfn)).symm
 refine ⟨by kernel_rfl,fun j t ht=>?_⟩
 have h:=Array.mem_of_getElem? ht
 have hall:Tryz.f12.params.all (fun t=>!Tryz.prog.wantsStandIn t)=true:=by kernel_rfl
 have:=Array.all_eq_true_iff_forall_mem.1 hall t h
 show Tryz.prog.wantsStandIn t=false
 simpa using this
theorem storeOwn_card:Rows.StoreOwnCardSaid:=
 Claim7.holds_tied_plain_at .later [] _ _ _ _ storeOwn_said (fun _ h=>by cases h) (by kernel_rfl) (fun _ h=>by cases h) storeOwn_row_tie rfl ⟨rfl,rfl⟩ (by kernel_rfl) rfl storeOwn_plain (by kernel_rfl)
end Go.Proofs.YtjaebndajhppgaaGreatDoor
