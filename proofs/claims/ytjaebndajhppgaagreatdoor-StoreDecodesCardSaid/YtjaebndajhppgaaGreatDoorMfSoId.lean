/-SoId-/
import Derived.Test.YtjaebndajhppgaaGreatDoorMfHd1
import Derived.Test.YtjaebndajhppgaaGreatDoorMfSoOf
import Derived.Test.YtjaebndajhppgaaGreatDoorMfSoEnc2
import Derived.Test.YtjaebndajhppgaaGreatDoorMfGRe1
import Derived.Test.YtjaebndajhppgaaGreatDoorMfGRe2
import Derived.Test.YtjaebndajhppgaaGreatDoorMfGRe3
import Derived.Deep.RegionLaw
import Derived.Deep.RegionHeld3
import Derived.Test.YtjaebndajhppgaaGreatDoorMfGSo3
set_option linter.unusedVariables false
set_option linter.unusedSimpArgs false
set_option maxRecDepth 100000
set_option maxHeartbeats 8000000
namespace Go.Proofs.YtjaebndajhppgaaGreatDoor
open Go.Proofs.Tryz
open Go.ChangeShapes Go.WideShapes Go.ChangeAt Go.RowKit Go.Sort
theorem vI {w:World} {base:Nat} {v:Value} {N:Nat} {l:List Nat} (h:w.ownsRow base 5 1 v N (l.map aM)) (hn:N=l.length):∃ a c,v=.slice a N c∧Hid (bN w (.slice a N c) l):=by have hy:bN w v l:=bD.own h hn;have HY:=aj hy;subst hn;obtain ⟨a,c,rfl,_⟩:=hy;exact ⟨a,c,rfl,HY⟩
theorem KI {w:World} {base:Nat} {v:Value} {N:Nat} {xs ys:List Value} (h:w.ownsRow base 5 1 v N xs) (e:xs=ys):w.ownsRow base 5 1 v N ys:=e ▸ h
theorem U5 {w:World} {base:Nat} {v:Value} {N:Nat} {l:List Nat} (h:w.ownsRow base 5 1 v N (l.map aM)) (hn:N=l.length):Hid (bN w v l):=aj (bD.own h hn)
theorem agB {W w:World} {o:Obj} {v:Value} {n:Nat} {xs:List Value} {t:TypeId} (h:w.ownsRow (W.alloc o).drew.heap.size t 1 v n xs):(Value.slice (some ⟨W.heap.size,0,none⟩) 2 2).ownBlock≠v.ownBlock:=fun e=>by have h1:=(h.lt W.heap.size e.symm).1;have h2:(W.alloc o).drew.heap.size=W.heap.size+1:=aI;omega
theorem U6 (L:List TR) (hl:∀ t∈L,Tm.aZ t=true) (hn:L.length≤100) (p:Nat) (w:World) (h:sV w p L) :
  Calls prog 45 #[.pointer (some ⟨p,0,none⟩)] w fun e w'=>∃ v,e=.returned v∧w'.ownsRow w.heap.size 5 1 v (So.file L).length ((So.file L).map aM)∧Below w.heap.size w w':=by
 have H:=aj h;obtain ⟨vt,ve,vs,vi,h1,h2,h3,h4,h5⟩:=h;have PK:=aj (fun W a n cap (hR:bM W a n fun i=>.int .i64 ((So.dL L).getD i 0)) (e:n=3*L.length)=>Kz a n cap (So.wid L) (So.dL L) W (by rw [e,So.mE]) (So.xD hn) hR);have RB:=aj (fun (v:Value) (W:World) (h:fI W v (So.texts L))=>KA v (So.texts L) W h (So.qZ hl hn));have BP:=aj (fun (a:Option Addr) (cap:Nat) (W:World) (h:fP W (.slice a 2 cap) (So.secs L))=>KH a 2 cap (So.secs L) W rfl h ak (by have h1:=So.T_ hl hn;have h2:=So.Ua hn;show (So.iR L).length+((So.d_ L).length+0)≤90000;omega) (So.A8 hl hn) (So.EW hl hn));have H4:=aj (show fI w vs (So.texts L) from h4);have H5:=aj h5;obtain ⟨ai,ci,rfl,_,_,_⟩:=h5.open;obtain ⟨ae,ce,rfl,_,_,_⟩:=h3.open;obtain ⟨KJ,KL,rfl,_,_,_,_⟩:=h4.open;rw [List.length_map] at h1;rw [So.gK] at h1;obtain ⟨m,hm⟩:=aB ((So.terms L).length);have WD:=aj (fun W=>Bb (m:Int) W (by have:=So.nA L;omega));have rA:=aj (show So.wid L=Bn.width m by rw [hm];rfl);rw [Int.toNat_natCast,←rA.out] at WD;have I4:=aj (show (So.texts L).length=m by rw [hm];unfold So.texts;rw [List.length_map]);rw [List.length_map] at H4;rw [So.gK] at H5;obtain ⟨k,hk⟩:=aB L.length;rw [←hm,←hk] at h1;rw [←hm] at H4;rw [←hk] at H5;have HK:=aj hk;have tJ:k≤100:=ak;have HP:=aj h1;clear h1 h2 h3 h4 h5 hm hk;go_enter func45,ntmps45;go_wp2;go_loopg [3,4] k (fun gk s3 s4 wr=>∃ i:Nat,s4=.int .i64 i∧i≤k∧k-i≤gk∧Hid (Below w.heap.size w wr)∧Hid (wr.ownsRow w.heap.size 3 1 s3 (3*i) ((((So.ids L).take i).flatMap So.eU).map gH)))
 case atStart=>exact ⟨0,rfl,Nat.zero_le _,Nat.le_refl _,aj (Below.refl _ _),aj (World.ownsRow_nil _ _ _ _)⟩
 case round=>
  obtain ⟨i,rfl,hik,hg,HB,HR⟩:=hrel;have xJ:=aj (HP.out.keep HB.out);have e1:=xJ.out.cell (i:=1) rfl;have e2:=xJ.out.cell (i:=2) rfl;have e3:=xJ.out.cell (i:=3) rfl;by_cases hlt:i<k
  · have hltz:(i:Int)<(k:Int):=ak;have bK:i<(So.ids L).length:=(by rw [So.gK,←HK.out];exact hlt);obtain ⟨bl,off,rfl,hrow⟩:=H5.out.get bK;have HST:=aj (Um bK);have b0:=hrow i bK 0 ak;have b1:=hrow i bK 1 ak;have b2:=hrow i bK 2 ak;have b3:=HP.out.cell (i:=3) rfl;obtain ⟨t,ht⟩:=aB ((So.ids L)[i]);rw [←ht] at b0 b1 b2 HST;obtain ⟨t1,t2,t3⟩:=t;simp only [Rg.at',Nat.add_zero] at b0 b1 b2;have c0:=aD HB.out b0;have c1:=aD HB.out b1;have c2:=aD HB.out b2;clear ht hrow bK;obtain ⟨iS,hi0,bW,bX,bY⟩:=info_parts Tryz.soinfo3;have iA:=HB.out.size;have aO:=aj (HB.out.drew.alloc iA (.cells ((So.eU (t1,t2,t3)).map gH).toArray 3));have nX:=aj (show (wr.drew.alloc (.cells ((So.eU (t1,t2,t3)).map gH).toArray 3)).ownsRow w.heap.size 3 1 u3 (3*i) ((((So.ids L).take i).flatMap So.eU).map gH) from World.ownsRow.alloc (show wr.drew.ownsRow w.heap.size 3 1 u3 (3*i) ((((So.ids L).take i).flatMap So.eU).map gH) from HR.out) _);(go_upto_region 5 with fail);go_region_held3 (fun w'=>w'.cell? ⟨p,3,none⟩=some (.slice (some ⟨bl,off,none⟩) k ci)∧w'.cell? ⟨bl,off+i*3,none⟩=some (.int .i64 t1)∧w'.cell? ⟨bl,off+i*3+1,none⟩=some (.int .i64 t2)∧w'.cell? ⟨bl,off+i*3+2,none⟩=some (.int .i64 t3))
     (first
       | exact ⟨aD aX.out b3,aD aX.out b0,aD aX.out b1,aD aX.out b2⟩
       | exact ⟨aD aO.out b3,aD aO.out b0,aD aO.out b1,aD aO.out b2⟩
       | go_keep)
     (first
       | (refine eT (by rfl) (.tmp 18) (.tmp 43) 48 (by rfl) w.heap.size 3 iS _ 1 8 underlying48 hi0 bW bX bY rfl aL u3 (3*i) _ (by rfl) nX.out (some ⟨wr.heap.size,0,none⟩) 3 3 ((So.eU (t1,t2,t3)).map gH) (by rfl) (fun h=>by cases h) rfl (wS wr.drew ((So.eU (t1,t2,t3)).map gH) 3) (Uo _) ?b1 ?b2 ?b3 ?_
          case b1=>(unfold maxLen;omega)
          case b2=>omega
          case b3=>exact aO.out.size
          intro v8 w8 g1 g2 g3
          have aX:=aj (aO.out.grown g2 aO.out.size (fun k hk=>(nX.out.lt k hk).1))
          have gP:=aj (show w8.ownsRow w.heap.size 3 1 v8 (3*(i+1)) ((((So.ids L).take (i+1)).flatMap So.eU).map gH) by rw [HST.out,List.map_append];exact g1)
          clear g1 g2 g3)
       | fail)
    go_wp2;go_roundg (k-(i+1))
    (case measure=>omega);case rel=>exact ⟨i+1,aN,ak,ak,aX,gP⟩
  · obtain rfl:i=k:=ak;have hltz:¬ (i:Int)<(i:Int):=ak;have hin:3*i=(So.dL L).length:=(by rw [So.mE,HK.out]);have Ku:=aj (show wr.ownsRow w.heap.size 3 1 u3 (3*i) ((So.dL L).map gH) by have h:=HR.out;rw [show (So.ids L).take i=So.ids L from by rw [HK.out,←So.gK,List.take_length]] at h;exact h);obtain ⟨an,cn,hv4,q1,q2,q3,hrow⟩:=bD.own (f:=gH) (d:=(0:Int)) Ku.out hin;rw [←hin] at hv4 hrow;subst hv4;have EY:=aj (PK.out wr an (3*i) cn hrow (by rw [HK.out]));clear hin q1 q2 q3 hrow HR hg;go_upto_region 7 with (first
     | (go_at_call 55;refine (WD.out _).mono ?_;rintro e w2 ⟨rfl,rfl⟩)
     | (go_at_call 27;refine EY.out.mono ?_;rintro e w1 ⟨b,rfl,hb2,hb,hblk⟩;have HB2:=aj hb2;have dw:=aj hb;have ig:=aj hblk;clear hb2 hb hblk))
    have eB:=aj (aJ HB.out HB2.out);obtain ⟨z,hz⟩:=aB (Pm.size (3*i) (So.wid L));rw [←hz] at ig ⊢;have HZ:=aj hz;have Us:z≤338:=(by rw [hz,HK.out];exact So.size_le (by rw [←HK.out];exact tJ));have hpk:(So.packed L).length=z:=(by rw [So.xE,←HK.out];exact hz.symm);have Kv:=aj (show aC w1 b ((So.packed L).map aM) 5 by have h:=ig.out;rw [hz,HK.out,Ur] at h;exact h);have hx:#[Value.int .u8 ((i:Int) / 256),Value.int .u8 (i:Int)].toList++(So.packed L).map aM=(So.d_ L).map aM:=(by unfold So.d_;rw [List.map_append,←HK.out];congr 1;show [Value.int .u8 ((i:Int) / 256),Value.int .u8 (i:Int)]=[Value.int .u8 ((i / 256 % 256:Nat):Int),Value.int .u8 ((i % 256:Nat):Int)];rw [show ((i / 256 % 256:Nat):Int)=(i:Int) / 256 by omega,show ((i % 256:Nat):Int)=(i:Int) by omega]);have HX:=aj hx;have U7:(So.d_ L).length=2+z:=(by unfold So.d_;rw [List.length_append,hpk];rfl);have HL2:=aj U7;have HPK:=aj hpk;have lJ:=aj (xJ.out.keep HB2.out);clear hz e1 e2 e3 hx U7 hpk ig;have e2:=lJ.out.cell (i:=2) rfl;have e3:=lJ.out.cell (i:=3) rfl;obtain ⟨iS,hi0,bW,bX,bY⟩:=info_parts Tryz.soinfo5;obtain ⟨n1,hn1⟩:=aB ((So.iR L).length);have lV:=aj hn1;have U8:=aj (show ∀ W,Below w1.heap.size w1 W→Calls prog 29 #[.slice KJ m KL] W fun e W'=>∃ a c,e=.returned (.slice a n1 c)∧Hid (W'.ownsRow W.heap.size 5 1 (.slice a n1 c) n1 ((So.iR L).map aM))∧Below W.heap.size W W' from fun W hB=>by refine (RB.out (.slice KJ m KL) W (H4.out.keep (aJ eB.out hB))).mono ?_;rintro e W' ⟨v,rfl,hb,ho⟩;have ho:W'.ownsRow W.heap.size 5 1 v n1 ((So.iR L).map aM):=(by rw [lV.out];exact ho);obtain ⟨a,c,rfl,_⟩:=vI ho lV.out;exact ⟨a,c,rfl,aj ho,hb⟩);clear hn1;have U9:Below w1.heap.size w1 w1.drew:=(Below.refl _ _).drew;have U_:Below w1.heap.size w1 (w1.alloc (.cells #[.int .u8 ((i:Int) / 256),.int .u8 (i:Int)] 5)).drew:=((Below.refl _ _).alloc aF _).drew;have OB:=aj (show (w1.alloc (.cells #[.int .u8 ((i:Int) / 256),.int .u8 (i:Int)] 5)).drew.ownsRow w1.heap.size 5 1 (.slice (some ⟨w1.heap.size,0,none⟩) 2 2) 2 #[Value.int .u8 ((i:Int) / 256),Value.int .u8 (i:Int)].toList from xB w1 5 #[.int .u8 ((i:Int) / 256),.int .u8 (i:Int)] 2 rfl (by unfold maxLen;omega) rfl);have Va:=aj (fun W (hB:Below w1.heap.size w1 W) ad (had:(some ⟨b,0,none⟩:Option Addr)=some ad) j u (hu:((So.packed L).map aM)[j]?=some u)=>(by cases had;rw [gG rfl,Nat.zero_add];exact (Kv.out.keep hB).cell hu:W.cell? (ad.add j)=some u));have ONE:=aj (show ∀ u∈(So.packed L).map aM,u.oneCell'=true from fun u hu=>by obtain ⟨x,_,rfl⟩:=List.mem_map.1 hu;rfl);have Vb:=aj (show ((So.packed L).map aM).length=z*1 by rw [List.length_map,HPK.out,Nat.mul_one]);have hw1:IntKind.u8.wrap ((i:Int) / 256)=(i:Int) / 256:=IntWalk.u8_in _ ⟨ak,ak⟩;have hw2:IntKind.u8.wrap (i:Int)=(i:Int):=IntWalk.u8_in _ ⟨ak,ak⟩;have hq1:2+z≤maxLen:=(by unfold maxLen;omega);have hq2:(2+z)*1≤140737488355328:=ak;clear RB PK EY WD;go_region_held3 (fun w'=>w'.cell? ⟨p,2,none⟩=some (.slice KJ m KL)∧w'.cell? ⟨p,3,none⟩=some (.slice ai i ci))
     (first
       | exact ⟨aD hbD e2,aD hbD e3⟩
       | exact ⟨aD hbC e2,aD hbC e3⟩
       | go_keep)
     (first
       | (go_at_call 29;with_reducible refine (U8.out _ U9).mono ?_;rintro e w2 ⟨a2,c2,rfl,jN,hb2⟩;have qz:=U5 jN.out lV.out;have hbC:=aJ U9 hb2;have SA:=aj (show w2.heap.size≤(w2.alloc (.cells #[.int .u8 ((i:Int) / 256),.int .u8 (i:Int)] 5)).heap.size by simp);have OA:=aj (xB w2 5 #[.int .u8 ((i:Int) / 256),.int .u8 (i:Int)] 2 rfl (by unfold maxLen;omega) rfl))
       | (go_at_call 29;with_reducible refine (U8.out _ U_).mono ?_;rintro e w2 ⟨a2,c2,rfl,jN,hb2⟩;have hbC:=aJ U_ hb2;have Vd:=aj (xI OB.out hb2))
       | (refine eT (by rfl) (.tmp 76) (.tmp 77) 32 (by rfl) w2.heap.size 5 iS _ 1 1 underlying32 hi0 bW bX bY rfl aL (.slice (some ⟨w2.heap.size,0,none⟩) 2 2) 2 _ (by rfl) OA.out (some ⟨b,0,none⟩) z z ((So.packed L).map aM) (by rfl) (fun h=>by cases h) Vb.out (Va.out _ (hbC.alloc hbC.size _)) ONE.out hq1 hq2 SA.out ?_
          intro v3 w3 g1 g2 g3
          have hb3:=((Below.refl w2.heap.size w2).alloc aF _).grown g2 aI (fun k hk=>(OA.out.lt k hk).1)
          have hbD:=aJ hbC hb3
          have kZ:=aj (qz.out.keep hb3)
          obtain ⟨a3,c3,rfl,qA⟩:=vI (KI g1 HX.out) HL2.out.symm
          have vH:=aj (EZ (aC.new w3 [.int .i64 1,.slice a2 n1 c2,.int .i64 2,.slice a3 (2+z) c3] 56) (kZ.out.keep ((Below.refl _ _).alloc aF _)) (qA.out.keep ((Below.refl _ _).alloc aF _)))
          clear g1 g2 g3)
       | (refine eT (by rfl) (.tmp 76) (.tmp 77) 32 (by rfl) w1.heap.size 5 iS _ 1 1 underlying32 hi0 bW bX bY rfl aL (.slice (some ⟨w1.heap.size,0,none⟩) 2 2) 2 _ (by rfl) Vd.out (some ⟨b,0,none⟩) z z ((So.packed L).map aM) (by rfl) (fun h=>by cases h) Vb.out (Va.out _ hbC) ONE.out hq1 hq2 hbC.size ?_
          intro v3 w3 g1 g2 g3
          have hbD:=hbC.grown g2 hbC.size (fun k hk=>(Vd.out.lt k hk).1)
          have kZ:=U5 (Apart.kept (Or.inr (Or.inr (agB jN.out))) jN.out g2) lV.out
          obtain ⟨a3,c3,rfl,qA⟩:=vI (KI g1 HX.out) HL2.out.symm
          have vH:=aj (EZ (aC.new w3 [.int .i64 1,.slice a2 n1 c2,.int .i64 2,.slice a3 (2+z) c3] 56) (kZ.out.keep ((Below.refl _ _).alloc aF _)) (qA.out.keep ((Below.refl _ _).alloc aF _)))
          clear g1 g2 g3)
       | (go_at_call 28;with_reducible refine (BP.out _ _ _ vH.out).mono ?_;rintro e w4 ⟨v4,rfl,hb4,pF⟩;have KM:=hbD;have hbD:=aJ (KM.alloc KM.size _) hb4;have jA:=aj pF)
       | fail)
    all_goals
     go_wp2
     go_ret
     have qM:=aJ eB.out hbD
     have hsz:=(aJ eB.out KM).size
     have ho:=jA.out
     rw [show Bx.total (So.secs L)=(So.file L).length from by unfold So.file;rw [Bx.sZ]] at ho
     exact ⟨_,rfl,A9 ho (by simp;omega),qM⟩
theorem agC (a:T3) (ha:So.dD a) (s:List UInt8) (w:World) :
  Calls prog 74 #[qG a,aA s] w fun e w'=>e=.returned (.int .i64 (Tm.cmp (So.sh a) s))∧Below w.heap.size w w':=by
 obtain ⟨h1,h2,h3,h4⟩:=qH ⟨a,ha⟩;have TS:=aj (fun W=>yB (a.1:Nat) a.2.1 a.2.2 W h1 h2);have e:Tm.show (a.1:Nat) a.2.1 a.2.2=So.sh a:=zK ⟨a,ha⟩;rw [e] at TS;have SC:=aj (fun u W=>M8 u s W);obtain ⟨k,t,x⟩:=a;clear h1 h2 h3 h4 e ha;have HB0:=aj (show Below w.heap.size w (w.alloc (.cells #[.int .i64 (k:Nat),aA t,aA x] 61)) from (Below.refl _ _).alloc aF _);go_enter func74,ntmps74;go_wp2_with (first
  | (go_at_call 57;refine (TS.out _).mono ?_;rintro e w1 ⟨rfl,hB⟩;have HB1:=aj (aJ HB0.out hB);clear hB)
  | (go_at_call 75;refine (SC.out _ _).mono ?_;rintro e w2 ⟨rfl,rfl⟩))
 go_ret;exact ⟨rfl,HB1.out⟩
def tL (E:List T3) (s:List UInt8):Nat:=(E.takeWhile fun a=>decide (Tm.cmp (So.sh a) s<0)).length
def xO (E:List T3) (s:List UInt8):Bool:=decide ((E[tL E s]?).map So.sh=some s)
theorem KO {E:List T3} {s:List UInt8} {i:Nat} (hi:i≤E.length) (h1:∀ j (h:j<E.length),j<i→Tm.cmp (So.sh E[j]) s<0) (h2:∀ j (h:j<E.length),i≤j→¬ Tm.cmp (So.sh E[j]) s<0):tL E s=i:=by
 unfold tL;have e:E.takeWhile (fun a=>decide (Tm.cmp (So.sh a) s<0))=E.take i:=by
  conv=>lhs;rw [←List.take_append_drop i E]
  rw [List.takeWhile_append_of_pos (fun a ha=>?_)]
  · cases hd:E.drop i with
    | nil=>simp
    | cons a r=>
     have hl:i<E.length:=by rcases Nat.lt_or_ge i E.length with h | h;{exact h};{rw [List.drop_eq_nil_of_le h] at hd;cases hd}
     have ha:E[i]=a:=(by have:=List.drop_eq_getElem_cons hl;rw [hd] at this;exact (List.cons.inj this).1.symm);have hn:=h2 i hl aF;rw [ha] at hn;simp [hn]
  {obtain ⟨j,hj,rfl⟩:=List.getElem_of_mem ha;rw [List.length_take] at hj;rw [List.getElem_take];exact decide_eq_true (h1 j ak ak)}
 rw [e,List.length_take];omega
theorem KP {E:List T3} {s:List UInt8} {i:Nat} {f:Bool} (hI:tL E s=i) (hf:f=true↔∃ h:i<E.length,So.sh E[i]=s):xO E s=f:=by unfold xO;rw [hI,Bool.eq_iff_iff,decide_eq_true_eq,hf];constructor;{intro h;rcases Nat.lt_or_ge i E.length with h3 | h3;{rw [List.getElem?_eq_getElem h3] at h;exact ⟨h3,Option.some.inj h⟩};{rw [List.getElem?_eq_none h3] at h;cases h}};{rintro ⟨h,h2⟩;rw [List.getElem?_eq_getElem h,←h2];rfl}
theorem agD (E:List T3) (hE:∀ a∈E,So.dD a) (hs:So.dR So.cT E) (hn:E.length≤10000) (s:List UInt8) (w:World) (v:Value) (hv:bF w v E) :
  Calls prog 73 #[v,aA s,.func (.func 74) #[] #[]] w fun e w'=>e=.returned (.tuple #[.int .i64 (tL E s:Nat),.bool (xO E s)])∧Below w.heap.size w w':=by
 have ID:=aj (fun a ha W=>agC a ha s W);obtain ⟨va,vc,rfl,hc1,hc2,hc3⟩:=hv.open;have HV:=aj hv;have HE:=aj hE;have HSL:=aj (show ∀ i j (hi:i<E.length) (hj:j<E.length),i≤j→Tm.cmp (So.sh E[i]) (So.sh E[j])≤0 from fun i j hi hj hij=>by
  rcases Nat.lt_or_ge i j with h | h;{exact Int.le_of_lt ((So.D_ So.fM hs hi hj).2 h)}
  · have:i=j:=ak;subst this;have:=So.fM.self E[i];exact Int.le_of_eq this)
 obtain ⟨n,hn0⟩:=aB E.length;have HN:=aj hn0;rw [←hn0] at HV hn hc1 ⊢;clear hv hE hs hc1 hc2 hc3 hn0;go_enter func73,ntmps73;go_wp2;go_loopg [9,10] n (fun gk s9 s10 wr=>∃ lo hi:Nat,s9=.int .i64 lo∧s10=.int .i64 hi∧lo≤hi∧hi≤n∧hi-lo≤gk∧Hid (Below w.heap.size w wr)∧Hid ((∀ j (h:j<E.length),j<lo→Tm.cmp (So.sh E[j]) s<0)∧(∀ j (h:j<E.length),hi≤j→0≤Tm.cmp (So.sh E[j]) s)))
 case atStart=>exact ⟨0,n,rfl,rfl,Nat.zero_le _,Nat.le_refl _,ak,Below.refl _ _,fun j h h1=>ak,fun j h h1=>by have:=HN.out;omega⟩
 case round=>
  obtain ⟨lo,hi,rfl,rfl,hlh,hin,hg,HB,HI⟩:=hrel;by_cases hlt:lo<hi
  · have tN:(lo+hi) / 2<E.length:=(by rw [←HN.out];omega);obtain ⟨m,hm⟩:=aB ((lo+hi) / 2);have hmz:((lo:Int)+(hi:Int)) / 2=((m:Nat):Int):=ak;rw [←hm] at tN;obtain ⟨b,off,rfl,hrow⟩:=(HV.out.keep HB.out).get tN;have c0:=hrow m tN 0 ak;have c1:=hrow m tN 1 ak;have c2:=hrow m tN 2 ak;obtain ⟨t,ht⟩:=aB (E[m]);rw [←ht] at c0 c1 c2;have hc:=ID.out t (by rw [ht];exact HE.out _ (List.getElem_mem _)) wr;have HM:=aj (show m=(lo+hi) / 2 from hm);have hm1:lo≤m:=ak;have hm2:m<hi:=ak;have jB:=aj (show Tm.cmp (So.sh t) s<0→∀ j (h:j<E.length),j<m+1→Tm.cmp (So.sh E[j]) s<0 from fun h0 j h hj=>by
     have h1:=HSL.out j m h tN ak;rw [←ht] at h1;rcases Int.lt_or_eq_of_le (Tm.yg h1 (Int.le_of_lt h0)) with h2 | h2;{exact h2}
     · exfalso;have e:=Tm.mQ.1 h2;rw [e] at h1;have:=Tm.jo s (So.sh t);omega)
    have Fa:=aj (show ¬ Tm.cmp (So.sh t) s<0→∀ j (h:j<E.length),m≤j→0≤Tm.cmp (So.sh E[j]) s from fun h0 j h hj=>Int.not_lt.1 fun h2=>by have h1:=HSL.out m j tN h hj;rw [←ht] at h1;have h3:=Tm.yg h1 (Int.le_of_lt h2);have h4:Tm.cmp (So.sh t) s=0:=ak;have e:=Tm.mQ.1 h4;rw [e] at h1;have:=Tm.jo s (So.sh E[j]);omega);obtain ⟨z,hz⟩:=aB (Tm.cmp (So.sh t) s);rw [←hz] at hc jB Fa;obtain ⟨k,tt,xx⟩:=t;simp only [bU,List.getElem?_cons_zero,List.getElem?_cons_succ,Nat.add_zero] at c0 c1 c2;clear hm ht hz hrow tN;by_cases hz0:z<0
    · have H1:=aj (jB.out hz0);clear jB Fa;(go_wp2_with (go_at_call 74;refine hc.mono ?_;rintro e w' ⟨rfl,hb'⟩;have HB2:=aj (aJ HB.out hb');clear hb'));go_roundg (hi-(m+1))
      (case measure=>omega);case rel=>exact ⟨m+1,hi,aN,rfl,ak,ak,Nat.le_refl _,HB2,H1.out,HI.out.2⟩
    · have H1:=aj (Fa.out hz0);clear jB Fa;(go_wp2_with (go_at_call 74;refine hc.mono ?_;rintro e w' ⟨rfl,hb'⟩;have HB2:=aj (aJ HB.out hb');clear hb'));go_roundg (m-lo)
      (case measure=>omega);case rel=>exact ⟨lo,m,rfl,aN,ak,ak,Nat.le_refl _,HB2,HI.out.1,H1.out⟩
  · obtain rfl:lo=hi:=ak;by_cases hl:lo<n
    · have xP:lo<E.length:=(by rw [←HN.out];exact hl);have hlz:(lo:Int)<(n:Int):=ak;obtain ⟨b,off,rfl,hrow⟩:=(HV.out.keep HB.out).get xP;have c0:=hrow lo xP 0 ak;have c1:=hrow lo xP 1 ak;have c2:=hrow lo xP 2 ak;obtain ⟨t,ht⟩:=aB (E[lo]);rw [←ht] at c0 c1 c2;have hc:=ID.out t (by rw [ht];exact HE.out _ (List.getElem_mem _)) wr;obtain ⟨z,hz⟩:=aB (Tm.cmp (So.sh t) s);rw [←hz] at hc;have HF:=aj (show (z==0)=true↔∃ h:lo<E.length,So.sh E[lo]=s by rw [beq_iff_eq,hz,Tm.mQ,ht];exact ⟨fun h=>⟨xP,h⟩,fun ⟨_,h⟩=>h⟩);obtain ⟨k,tt,xx⟩:=t;simp only [bU,List.getElem?_cons_zero,List.getElem?_cons_succ,Nat.add_zero] at c0 c1 c2;clear ht hz hrow xP;obtain ⟨f,hf⟩:=aB ((z==0));rw [←hf] at HF;have HFZ:=aj hf;clear hf;(go_wp2_with (go_at_call 74;refine hc.mono ?_;rintro e w' ⟨rfl,hb'⟩;have HB2:=aj (aJ HB.out hb');clear hb'));go_ret2
      have eI:=KO (by rw [←HN.out];exact hin) HI.out.1 (fun j h hj=>Int.not_lt.2 (HI.out.2 j h hj));have eF:=KP eI HF.out;exact ⟨by rw [eI,eF,HFZ.out];rfl,HB2.out⟩
    · have hlz:¬ (lo:Int)<(n:Int):=ak;go_wp2;go_ret2
      have eI:=KO (by rw [←HN.out];exact hin) HI.out.1 (fun j h hj=>Int.not_lt.2 (HI.out.2 j h hj));have eF:=KP (f:=false) eI (by
       constructor;{intro h;cases h}
       · rintro ⟨h,_⟩;rw [←HN.out] at h;exact absurd h hl)
      exact ⟨by rw [eI,eF];rfl,HB.out⟩
theorem KQ (a:T3) (k:Int) (t x:List UInt8) (w:World):(binOp .neq 61 (.agg #[.int .i64 (a.1:Nat),aA a.2.1,aA a.2.2]) (.agg #[.int .i64 k,aA t,aA x])).run prog w=.ok (.bool (!decide ((a.1:Int)=k∧a.2.1=t∧a.2.2=x))) w:=by
 obtain ⟨m,u,y⟩:=a;by_cases h1:(m:Int)=k <;> by_cases h2:u=t <;> by_cases h3:y=x;all_goals
  simp [go_sem,h1,h2,h3] <;> omega
def vJ (E:List T3) (k:Int) (t x:List UInt8):Nat:=if 0≤k then So.num E (k.toNat,t,x) else 0
theorem agE (E:List T3) (n:Nat) (t x:List UInt8):vJ E (n:Int) t x=So.num E (n,t,x):=by unfold vJ;rw [if_pos ak,Int.toNat_natCast]
theorem Ve {E:List T3} (hE:∀ a∈E,So.dD a) (hs:So.dR So.cT E) (k:Int) (t x:List UInt8) {j:Nat} (hj:j<E.length) (he:(E[j].1:Int)=k∧E[j].2.1=t∧E[j].2.2=x) :
  tL E (Tm.show k t x)=j∧xO E (Tm.show k t x)=true∧vJ E k t x=j+1:=by
 obtain ⟨e1,e2,e3⟩:=he;have hv:=zK ⟨E[j],hE _ (List.getElem_mem hj)⟩;have hsh:Tm.show k t x=So.sh E[j]:=by rw [←hv,←e1,←e2,←e3]
 have eI:tL E (Tm.show k t x)=j:=by refine KO ak (fun i hi hij=>?_) (fun i hi hij=>?_);{rw [hsh];exact (So.D_ So.fM hs hi hj).2 hij};{rw [hsh];intro h;have:=(So.D_ So.fM hs hi hj).1 h;omega}
 refine ⟨eI,KP eI ⟨fun _=>⟨hj,hsh.symm⟩,fun _=>rfl⟩,?_⟩;rw [←e1,agE,←e2,←e3];exact So.Ie (So.Ic So.fM hs) hj
theorem agF {E:List T3} {k:Int} {t x:List UInt8} (h:∀ j (hj:j<E.length),¬ ((E[j].1:Int)=k∧E[j].2.1=t∧E[j].2.2=x)):vJ E k t x=0:=by unfold vJ;split;{refine So.zG fun hm=>?_;obtain ⟨j,hj,e⟩:=List.getElem_of_mem hm;exact h j hj (by rw [e];exact ⟨by show ((k.toNat:Nat):Int)=k;omega,rfl,rfl⟩)};{rfl}
theorem agG (p:Nat) (L:List TR) (hl:∀ t∈L,Tm.aZ t=true) (hn:L.length≤1000) (k:Int) (t x:List UInt8) (w:World) (h:gW w p L) (ht:t.length≤1000000000) (hx:x.length≤1000000000) :
  Calls prog 32 #[.pointer (some ⟨p,0,none⟩),bG k t x] w fun e w'=>e=.returned (.int .i64 (vJ (So.terms L) k t x:Nat))∧Below w.heap.size w w':=by
 obtain ⟨vt,ve,r,h1,h2,h3,h4⟩:=h;have HE:=aj (So.qF hl);have HS:=aj (So.wN hl);have hlen:=So.nA L;obtain ⟨E,hE⟩:=aB (So.terms L);rw [←hE] at h3 HE HS hlen ⊢;clear hE;obtain ⟨a,cap,rfl,hc1,hc2,hc3⟩:=h3.open;have TS:=aj (fun W=>yB k t x W ht hx);have BS:=aj (fun (s:List UInt8) (W:World) (hv:bF W (.slice a E.length cap) E)=>agD E HE.out HS.out ak s W _ hv);have HP:=aj h1;have HT:=aj h3;obtain ⟨s,hs⟩:=aB (Tm.show k t x);have wR:=aj hs;rw [←hs] at TS;obtain ⟨n,hn0⟩:=aB E.length;rw [←hn0] at BS HT HP;have HN:=aj hn0;clear h1 h2 h3 h4 hc1 hc2 hc3 hs hn0;go_enter func32,ntmps32;go_upto_region 3 with fail
 obtain ⟨w2,hw2,k0,k1,k2,HB⟩:=F5 w (.int .i64 k) (aA t) (aA x) 61;rw [←hw2];have ni:=aj (show aC w2 p [vt,.slice a n cap,.pointer (some ⟨r,0,none⟩)] 110 by rw [hw2];exact HP.out.alloc _);have HT2:=aj (show bF w2 (.slice a n cap) E from HT.out.keep HB.out);clear hw2;have p1:=fun q:Later w2.heap.size w2=>q.keep (ni.out.cell (i:=1) rfl);refine fV w2.heap.size aG aG ?_;repeat (go_big_quiet_step (first
  | (go_at_call 57;with_reducible exact Later.call aF (TS.out _))
  | (go_at_call 73;with_reducible exact Later.call aF (BS.out s _ (HT2.out.keep (Later.low _))))))
 refine wpQuiet_nil ?_;rintro _ ⟨q,rfl⟩;have HQ:=aj (aJ HB.out q.low);have KR:=aj (HT2.out.keep q.low);have P1:=aj (p1 q);have K0:=aj (k0 q);have K1:=aj (k1 q);have K2:=aj (k2 q);generalize q.it=w5 at HQ KR P1 K0 K1 K2 ⊢;clear k0 k1 k2 p1;by_cases hf:∃ j,∃ hj:j<E.length,(E[j].1:Int)=k∧E[j].2.1=t∧E[j].2.2=x
 · obtain ⟨j,hj,he⟩:=hf;obtain ⟨eI,eF,eO⟩:=Ve HE.out HS.out k t x hj he;rw [←wR.out] at eI eF;rw [eI,eF];have HO:=aj eO;obtain ⟨b,off,rfl,hrow⟩:=KR.out.get hj;have c0:=hrow j hj 0 ak;have c1:=hrow j hj 1 ak;have c2:=hrow j hj 2 ak;obtain ⟨u,hu⟩:=aB (E[j]);rw [←hu] at c0 c1 c2 he;have NE:=KQ u k t x;rw [decide_eq_true he] at NE;have hjn:j<n:=(by rw [HN.out];exact hj);have hjz:(j:Int)<(n:Int):=ak;have sK:(j:Int)<1000000:=ak;obtain ⟨m,u1,u2⟩:=u;simp only [bU,List.getElem?_cons_zero,List.getElem?_cons_succ,Nat.add_zero] at c0 c1 c2;have p1:=P1.out;have k0:=K0.out;have k1:=K1.out;have k2:=K2.out;clear hrow hu he eI eF eO hj;go_wp2;go_region
   go_wp2;go_ret;exact ⟨by rw [HO.out];rfl,HQ.out.drew⟩
 · have HO:=aj (show vJ E k t x=0 from agF fun j hj he=>hf ⟨j,hj,he⟩);cases hF:xO E s with
   | false=>
    clear hf hF;have p1:=P1.out;have k0:=K0.out;have k1:=K1.out;have k2:=K2.out;go_wp2;go_region
    go_wp2;go_ret;exact ⟨by rw [HO.out];rfl,HQ.out.drew⟩
   | true=>
    have hF2:=hF;unfold xO at hF2;rw [decide_eq_true_eq] at hF2;obtain ⟨j,hj0⟩:=aB (tL E s);rw [←hj0] at hF2 ⊢;have hj:j<E.length:=by rcases Nat.lt_or_ge j E.length with h | h;{exact h};{rw [List.getElem?_eq_none h] at hF2;cases hF2}
    have hne:¬ ((E[j].1:Int)=k∧E[j].2.1=t∧E[j].2.2=x):=fun he=>hf ⟨j,hj,he⟩;obtain ⟨b,off,rfl,hrow⟩:=KR.out.get hj;have c0:=hrow j hj 0 ak;have c1:=hrow j hj 1 ak;have c2:=hrow j hj 2 ak;obtain ⟨u,hu⟩:=aB (E[j]);rw [←hu] at c0 c1 c2 hne;have NE:=KQ u k t x;rw [decide_eq_false hne] at NE;have hjn:j<n:=(by rw [HN.out];exact hj);have hjz:(j:Int)<(n:Int):=ak;obtain ⟨m,u1,u2⟩:=u;simp only [bU,List.getElem?_cons_zero,List.getElem?_cons_succ,Nat.add_zero] at c0 c1 c2;have p1:=P1.out;have k0:=K0.out;have k1:=K1.out;have k2:=K2.out;clear hrow hu hne hj hj0 hF hF2 hf;go_wp2;go_region
    go_wp2;go_ret;exact ⟨by rw [HO.out];rfl,HQ.out.drew⟩
end Go.Proofs.YtjaebndajhppgaaGreatDoor
