import Derived.Test.YtddbpnplbcjpgaaGreatDoorLp15
import Derived.Test.YtddbpnplbcjpgaaGreatDoorLp10
import Derived.Shelf.GgSortFunc.SmallK
namespace Go.Proofs.YtddbpnplbcjpgaaGreatDoor
open Go.Shelf Go.RowKit Go.Lib Go.Sort Go.Proofs
variable {P:Program} {ρ:Ren} {α:Type} [Inhabited α]
theorem symMerge_cells (L:LaysGt.n30 P ρ) (enc:α→List Value) (k:Nat) (hk:∀ x,(enc x).length=k) (g:Nat) (lb:Array Value) (sf:Nat) (sb:Array Value) (lt:α→α→Bool) (hS:SWO lt) (eg:∀ args w,(callFunc g args).run P w=.ok (.enter g args) w) (blk off:Nat) :
   ∀ (N a m b:Nat) (d:Array α) (w:World),LessK P g lb enc k lt blk off d.size w→SwapSwapsK P sf sb enc k blk off d.size→HoldsK enc k w blk off d→blk < w.heap.size→b - a≤N→a < m→m < b→b≤d.size→d.size < 4611686018427387904→SortedIn lt a m d→SortedIn lt m b d →
     Calls P (ρ.f 30) #[.agg #[.func (.func g) #[] lb,.func (.func sf) #[] sb],.int .i64 a,.int .i64 m,.int .i64 b] w fun e w'=>e=.returned (.tuple #[])∧∃ d',PermIn a b d d'∧SortedIn lt a b d'∧SWK enc k w blk off d' w':=by
 intro N
 induction N with
 | zero=>intro a m b d w _ _ _ _ h1 h2 h3;omega
 | succ N ih =>
   intro a m b d w hless hswap hH hblk hN ham hmb hb hsz h1 h2
   have K:Kit P ρ enc k w blk off g lb sf sb lt d N :=
     ⟨fun dk wr i j S hi hj=>S.less hless hi hj,
      fun dk wr i j S hi hj=>S.swap hk hblk hH hswap hi hj,
      fun dk wr s m e S h1 h2 h3=>by
       have hc:=rotate_cells (P:=P) (ρ:=ρ) { L with } enc k hk g lb sf sb blk off s e s m e dk wr (by rw [S.size];exact hswap) (S.sw.holds hblk hH S.size) (S.sw.lt hblk) (Nat.le_refl _) h1 h2 (Nat.le_refl _) (by rw [S.size];exact h3) (by rw [S.size];exact hsz)
       exact hc.mono fun _ _ ⟨g1,d',g2,g3⟩=>⟨g1,d',g2,S.on hblk g3 g2.perm.1⟩,
      fun dk wr a m b S g1 g2 g3 g4 g5 g6=>by
       have hc:=ih a m b dk wr (by rw [S.size];exact hless.of S.sw hblk S.size) (by rw [S.size];exact hswap) (S.sw.holds hblk hH S.size) (S.sw.lt hblk) g1 g2 g3 (by rw [S.size];exact g4) (by rw [S.size];exact hsz) g5 g6
       exact hc.mono fun _ _ ⟨f1,d',f2,f3,f4⟩=>⟨f1,d',f2,f3,S.on hblk f4 f2.1⟩⟩
   by_cases hA:m=a + 1
   · exact symA L enc k g lb sf sb lt hS eg blk off a m b N d w K hH hA hmb hb hsz h2
   · by_cases hB:b=m + 1
     · exact symB L enc k g lb sf sb lt hS eg blk off a m b N d w K hH hA hB ham hb hsz h1
     · rcases Nat.lt_or_ge ((a + b) / 2) m with hc | hc
       · exact symC_hi L enc k g lb sf sb lt hS eg blk off a m b N d w K hH hA hB ham hmb hb hsz hN h1 h2 hc
       · exact symC_lo L enc k g lb sf sb lt hS eg blk off a m b N d w K hH hA hB ham hmb hb hsz hN h1 h2 hc
set_option maxHeartbeats 8000000 in
set_option maxRecDepth 1000000 in
theorem insert_cells (L:LaysGt.n29 P ρ) (enc:α→List Value) (k:Nat) (hk:∀ x,(enc x).length=k) (g:Nat) (lb:Array Value) (sf:Nat) (sb:Array Value) (lt:α→α→Bool) (hS:SWO lt) (eg:∀ args w,(callFunc g args).run P w=.ok (.enter g args) w) (blk off a b:Nat) (d:Array α) (w:World)
   (hless:LessK P g lb enc k lt blk off d.size w) (hswap:SwapSwapsK P sf sb enc k blk off d.size) (hH:HoldsK enc k w blk off d) (hblk:blk < w.heap.size) (hab:a≤b) (hb:b≤d.size) (hsz:d.size < 4611686018427387904) :
   Calls P (ρ.f 29) #[.agg #[.func (.func g) #[] lb,.func (.func sf) #[] sb],.int .i64 a,.int .i64 b] w fun e w'=>e=.returned (.tuple #[])∧∃ d',PermIn a b d d'∧SortedIn lt a b d'∧SWK enc k w blk off d' w':=by
 have mixed:=L.mixed;have t0:=L.t0;have a0:=L.a0;have z0:=L.z0;have v0:=L.v0;have t3:=L.t3;have a3:=L.a3;have z3:=L.z3;have v3:=L.v3;have t4:=L.t4;have a4:=L.a4;have z4:=L.z4;have v4:=L.v4;have t26:=L.t26;have a26:=L.a26;have z26:=L.z26;have v26:=L.v26;have t38:=L.t38;have a38:=L.a38;have z38:=L.z38;have v38:=L.v38;have t42:=L.t42;have a42:=L.a42;have z42:=L.z42;have v42:=L.v42
 have u42:=run_underlying L.t42
 have HLS:Hid (∀ (dk:Array α) (wr:World) (i j:Nat),SWC enc k w blk off g lb sf sb d dk wr→i < d.size→j < d.size →
   Calls P g (#[.int .i64 i,.int .i64 j] ++ lb) wr fun e w'=>e=.returned (.bool (lt dk[i]! dk[j]!))∧SWC enc k w blk off g lb sf sb d dk w'):=Lib.hid (fun dk wr i j S hi hj=>S.less hless hi hj)
 have HSW:Hid (∀ (dk:Array α) (wr:World) (i j:Nat),SWC enc k w blk off g lb sf sb d dk wr→i < d.size→j < d.size →
   ∃ w2,(callFunc sf (#[.int .i64 i,.int .i64 j] ++ sb)).run P wr=.ok (.value (.tuple #[])) w2∧SWC enc k w blk off g lb sf sb d (swp dk i j) w2):=Lib.hid (fun dk wr i j S hi hj=>S.swap hk hblk hH hswap hi hj)
 have HSO:=Lib.hid hS
 have SS:=SWC.start (g:=g) (lb:=lb) (sf:=sf) (sb:=sb) hH (ρ.t 42)
 have S0:Aside (SWC enc k w blk off g lb sf sb d d (w.alloc (.cells #[.func (.func g) #[] lb,.func (.func sf) #[] sb] (ρ.t 42)))):=SS
 clear hless hswap hH SS hk hS
 go_enter L.f29,BodyGt.n29_ntmps ρ
 go_wp2
 go_loopw [6] (fun vi wr=>∃ (i:Nat) (dk:Array α),vi=.int .i64 i∧a < i∧i≤b + 1∧Hid (insOuter lt a b i dk=insOuter lt a b (a + 1) d)∧Aside (SWC enc k w blk off g lb sf sb d dk wr)) (fun vi _=>b + 1 - (intOf vi).toNat)
 case atStart=>exact ⟨a + 1,d,by go_num,by omega,by omega,rfl,S0⟩
 case round =>
   obtain ⟨i,dk,rfl,hai,hib,HO,S⟩:=hrel
   by_cases hlt:i < b
   · have b1:decide (i < b)=true:=by simpa using hlt
     have S1:Aside (SWC enc k w blk off g lb sf sb d dk wr):=S
     clear S
     go_wp2
     go_loopw [7] (fun vj wr2=>∃ (j:Nat) (dj:Array α),vj=.int .i64 j∧a≤j∧j≤i∧Hid (insInner lt a j dj=insInner lt a i dk)∧Aside (SWC enc k w blk off g lb sf sb d dj wr2)) (fun vj _=>(intOf vj).toNat)
     case atStart=>exact ⟨i,dk,rfl,by omega,Nat.le_refl _,rfl,S1⟩
     case round =>
       clear S1
       obtain ⟨j,dj,rfl,haj,hji,HI,S⟩:=hrel
       have HOUT:Hid ((j≤a∨lt dj[j]! dj[j - 1]! = false)→insOuter lt a b (i + 1) dj=insOuter lt a b (a + 1) d):=Lib.hid (fun hs=>by
         rw [←HO.out,insOuter_go _ _ _ _ _ hlt,←HI.out,insInner_stop _ _ _ _ hs])
       by_cases hja:a < j
       · have b2:decide (a < j)=true:=by simpa using hja
         obtain ⟨v,hv⟩:∃ v,v=j - 1:=⟨_,rfl⟩
         have hv1:(j:Int) - 1=(v:Int):=by omega
         have hvj:v < j:=by omega
         have hl:=HLS.out dj wr j v S.out (by omega) (by omega)
         have c0:=S.out.c0
         have HV:=Lib.hid hv
         clear hv
         cases hlv:lt dj[j]! dj[v]! with
         | true =>
           rw [hlv] at hl
           have HL:Hid (lt dj[j]! dj[j - 1]! = true):=Lib.hid (by rw [←HV.out];exact hlv)
           clear hlv
           obtain ⟨x,hx⟩:∃ x,x=j:=⟨_,rfl⟩
           go_wp2_with (go_at_fn g;refine hl.mono ?_;rintro e w1 ⟨rfl,hs1⟩;have z1:=hs1.c1;have hsw:=HSW.out dj w1 j v hs1 (by omega) (by omega);obtain ⟨w2,hs2,S2⟩:=hsw;have S2':Aside (SWC enc k w blk off g lb sf sb d (swp dj j v) w2):=S2;clear hs1 S2)
           go_roundw
           · exact ⟨v,swp dj j v,by go_num,by have:=HV.out;omega,by omega,by show insInner lt a v (swp dj j v)=_;rw [←HI.out,HV.out];exact (insInner_go lt a j dj hja HL.out).symm,S2'⟩
           · simp [intOf];omega
         | false =>
           rw [hlv] at hl
           have HL:Hid (lt dj[j]! dj[j - 1]! = false):=Lib.hid (by rw [←HV.out];exact hlv)
           clear hlv
           go_wp2_with (go_at_fn g;refine hl.mono ?_;rintro e w1 ⟨rfl,hs1⟩;have S1:Aside (SWC enc k w blk off g lb sf sb d dj w1):=hs1;clear hs1)
           go_roundw
           · exact ⟨i + 1,dj,by go_num,by omega,by omega,HOUT.out (.inr HL.out),S1⟩
           · simp [intOf];omega
       · have b2:decide (a < j)=false:=by simp;omega
         go_wp2_with fail
         go_roundw
         · exact ⟨i + 1,dj,by go_num,by omega,by omega,HOUT.out (.inl (by omega)),S⟩
         · simp [intOf];omega
   · have b1:decide (i < b)=false:=by simp;omega
     go_wp2
     go_end0
     have h:=insertionSort_holds (lt:=lt) HSO.out d a b hab hb
     have e:dk=Sort.insertionSort lt d a b:=by unfold Sort.insertionSort;rw [←HO.out,insOuter_stop _ _ _ _ _ hlt]
     rw [←e] at h
     exact ⟨rfl,dk,h.1,h.2,S.out.sw⟩
structure KitS (P:Program) (ρ:Ren) (enc:α→List Value) (k:Nat) (w:World) (blk off g:Nat) (lb:Array Value) (sf:Nat) (sb:Array Value) (lt:α→α→Bool) (d:Array α):Prop where
 ins:∀ (dk:Array α) (wr:World) (a b:Nat),SWC enc k w blk off g lb sf sb d dk wr→a≤b→b≤d.size →
   Calls P (ρ.f 29) #[.agg #[.func (.func g) #[] lb,.func (.func sf) #[] sb],.int .i64 a,.int .i64 b] wr fun r w'=>r=.returned (.tuple #[])∧∃ d',PermIn a b dk d'∧SortedIn lt a b d'∧SWC enc k w blk off g lb sf sb d d' w'
 sym:∀ (dk:Array α) (wr:World) (a m b:Nat),SWC enc k w blk off g lb sf sb d dk wr→a < m→m < b→b≤d.size→SortedIn lt a m dk→SortedIn lt m b dk →
   Calls P (ρ.f 30) #[.agg #[.func (.func g) #[] lb,.func (.func sf) #[] sb],.int .i64 a,.int .i64 m,.int .i64 b] wr fun r w'=>r=.returned (.tuple #[])∧∃ d',PermIn a b dk d'∧SortedIn lt a b d'∧SWC enc k w blk off g lb sf sb d d' w'
set_option maxHeartbeats 16000000 in
set_option maxRecDepth 1000000 in
theorem stable_cells (L:LaysGt.n15 P ρ) (enc:α→List Value) (k:Nat) (hk:∀ x,(enc x).length=k) (g:Nat) (lb:Array Value) (sf:Nat) (sb:Array Value) (lt:α→α→Bool) (hS:SWO lt) (eg:∀ args w,(callFunc g args).run P w=.ok (.enter g args) w) (blk off n:Nat) (d:Array α) (w:World)
   (hless:LessK P g lb enc k lt blk off d.size w) (hswap:SwapSwapsK P sf sb enc k blk off d.size) (hH:HoldsK enc k w blk off d) (hblk:blk < w.heap.size) (hn:n=d.size) (hsz:d.size < 1152921504606846976) :
   Calls P (ρ.f 15) #[.agg #[.func (.func g) #[] lb,.func (.func sf) #[] sb],.int .i64 n] w fun e w'=>e=.returned (.tuple #[])∧∃ d',PermIn 0 n d d'∧SortedIn lt 0 n d'∧SWK enc k w blk off d' w':=by
 have mixed:=L.mixed;have t0:=L.t0;have a0:=L.a0;have z0:=L.z0;have v0:=L.v0;have t3:=L.t3;have a3:=L.a3;have z3:=L.z3;have v3:=L.v3;have t4:=L.t4;have a4:=L.a4;have z4:=L.z4;have v4:=L.v4;have t26:=L.t26;have a26:=L.a26;have z26:=L.z26;have v26:=L.v26;have t38:=L.t38;have a38:=L.a38;have z38:=L.z38;have v38:=L.v38;have t42:=L.t42;have a42:=L.a42;have z42:=L.z42;have v42:=L.v42
 have u42:=run_underlying L.t42
 have e29:∀ args w,(callFunc (ρ.f 29) args).run P w=.ok (.enter (ρ.f 29) args) w:=enters_of L.f29 (by kernel_rfl) rfl
 have e30:∀ args w,(callFunc (ρ.f 30) args).run P w=.ok (.enter (ρ.f 30) args) w:=enters_of L.f30 (by kernel_rfl) rfl
 have K:KitS P ρ enc k w blk off g lb sf sb lt d :=
   ⟨fun dk wr a b S g1 g2=>by
     have hc:=insert_cells (P:=P) (ρ:=ρ) { L with } enc k hk g lb sf sb lt hS eg blk off a b dk wr (by rw [S.size];exact hless.of S.sw hblk S.size) (by rw [S.size];exact hswap) (S.sw.holds hblk hH S.size) (S.sw.lt hblk) g1 (by rw [S.size];exact g2) (by rw [S.size];omega)
     exact hc.mono fun _ _ ⟨f1,d',f2,f3,f4⟩=>⟨f1,d',f2,f3,S.on hblk f4 f2.1⟩,
    fun dk wr a m b S g2 g3 g4 g5 g6=>by
     have hc:=symMerge_cells (P:=P) (ρ:=ρ) { L with } enc k hk g lb sf sb lt hS eg blk off (b - a) a m b dk wr (by rw [S.size];exact hless.of S.sw hblk S.size) (by rw [S.size];exact hswap) (S.sw.holds hblk hH S.size) (S.sw.lt hblk) (Nat.le_refl _) g2 g3 (by rw [S.size];exact g4) (by rw [S.size];omega) g5 g6
     exact hc.mono fun _ _ ⟨f1,d',f2,f3,f4⟩=>⟨f1,d',f2,f3,S.on hblk f4 f2.1⟩⟩
 have HK:=Lib.hid K
 have HN:Hid (n=d.size):=Lib.hid hn
 have hn1:n < 1152921504606846976:=by omega
 have SS:=SWC.start (g:=g) (lb:=lb) (sf:=sf) (sb:=sb) hH (ρ.t 42)
 have S0:Aside (SWC enc k w blk off g lb sf sb d d (w.alloc (.cells #[.func (.func g) #[] lb,.func (.func sf) #[] sb] (ρ.t 42)))):=SS
 clear K hless hswap hH SS hn hsz hk
 go_enter L.f15,BodyGt.n15_ntmps ρ
 go_wp2
 go_loopw [5,6] (fun va vb wr=>∃ (x q:Nat) (dk:Array α),va=.int .i64 x∧vb=.int .i64 ((x:Int) + 20)∧x≤n∧Hid (x=q * 20)∧Hid (BlkA lt 20 q dk)∧Hid (PermIn 0 n d dk)∧Aside (SWC enc k w blk off g lb sf sb d dk wr)) (fun va _ _=>n - (intOf va).toNat)
 case atStart=>exact ⟨0,0,d,rfl,by go_num,Nat.zero_le _,by show 0=0 * 20;omega,fun q h=>absurd h (Nat.not_lt_zero _),permIn_refl _ _ _,S0⟩
 case round =>
   obtain ⟨x,q,dk,rfl,rfl,hxn,HX,BA,PM,S⟩:=hrel
   have c0:=S.out.c0
   have c1:=S.out.c1
   by_cases hle:x + 20≤n
   · have b1:decide ((x:Int) + 20≤(n:Int))=true:=by simp;omega
     obtain ⟨y,hy⟩:∃ y,y=x + 20:=⟨_,rfl⟩
     have hy1:(x:Int) + 20=(y:Int):=by omega
     have HY:=Lib.hid hy
     have hyn:y≤n:=by omega
     have b2:decide (y≤n)=true:=by simpa using hyn
     clear hy hle b1
     go_wp2_with (first
       | (go_at_fn (ρ.f 29);(with_reducible refine (HK.out.ins dk wr x y S.out (by have:=HY.out;omega) (by rw [←HN.out];exact hyn)).mono ?_);rintro r w1 ⟨rfl,d1,p1,s1,t1⟩;have P1:=Lib.hid p1;have Q1:=Lib.hid s1;have S1:Aside (SWC enc k w blk off g lb sf sb d d1 w1):=t1;clear p1 s1 t1)
       | fail)
     go_roundw
     · refine ⟨y,q + 1,d1,rfl,rfl,hyn,by have h1:=HX.out;have h2:=HY.out;show y=(q + 1) * 20;omega,?_,?_,S1⟩
       · have h1:=HX.out
         have h2:=HY.out
         have h3:q * 20 + 20=y:=by omega
         refine blkA_step BA.out ?_ ?_
         · rw [h3,←h1];exact P1.out
         · rw [h3,←h1];exact Q1.out
       · exact permIn_trans _ _ _ _ _ PM.out (permIn_mono dk d1 x y 0 n (Nat.zero_le _) hyn (by rw [PM.out.1,HN.out];exact Nat.le_refl _) P1.out)
     · have h2:=HY.out
       simp [intOf];omega
   · have b1:decide ((x:Int) + 20≤(n:Int))=false:=by simp;omega
     go_wp2_with (first
       | (go_at_fn (ρ.f 29);(with_reducible refine (HK.out.ins dk wr x n S.out hxn (by rw [←HN.out];exact Nat.le_refl _)).mono ?_);rintro r w1 ⟨rfl,d1,p1,s1,t1⟩;have HB0:Hid (BlkB lt 20 0 n d1):=Lib.hid (by have h1:=HX.out;rw [h1] at p1 s1;exact blkA_end BA.out (by omega) p1 s1);have PM1:Hid (PermIn 0 n d d1):=Lib.hid (permIn_trans _ _ _ _ _ PM.out (permIn_mono dk d1 x n 0 n (Nat.zero_le _) (Nat.le_refl _) (by rw [PM.out.1,HN.out];exact Nat.le_refl _) p1));have S1:Aside (SWC enc k w blk off g lb sf sb d d1 w1):=t1;clear p1 s1 t1)
       | fail)
     clear BA PM S c0 c1 b1 hle HX
     go_loopw [4] (fun vB wr=>∃ (B:Nat) (dk:Array α),vB=.int .i64 B∧0 < B∧B < 2305843009213693952∧Hid (BlkB lt B 0 n dk)∧Hid (PermIn 0 n d dk)∧Aside (SWC enc k w blk off g lb sf sb d dk wr)) (fun vB _=>n - (intOf vB).toNat)
     case atStart=>exact ⟨20,d1,rfl,by omega,by omega,HB0,PM1,S1⟩
     case round =>
       clear HB0 PM1 S1
       obtain ⟨B,dB,rfl,hB0,hB1,BB,PM,S⟩:=hrel
       have c0:=S.out.c0
       have c1:=S.out.c1
       by_cases hBn:B < n
       · have b1:decide (B < n)=true:=by simpa using hBn
         obtain ⟨C,hC⟩:∃ C,C=2 * B:=⟨_,rfl⟩
         have hC1:2 * (B:Int)=(C:Int):=by omega
         have hC2:(B:Int) * 2=(C:Int):=by omega
         have HC:=Lib.hid hC
         have hC3:C < 2305843009213693952:=by omega
         have hC4:0 < C:=by omega
         have S1:Aside (SWC enc k w blk off g lb sf sb d dB wr):=S
         clear hC S c0 c1
         go_wp2
         go_loopw [5,6] (fun va vb wr=>∃ (x q:Nat) (dk:Array α),va=.int .i64 x∧vb=.int .i64 ((x:Int) + (C:Int))∧x≤n∧Hid (x=q * C)∧Hid (BlkA lt C q dk)∧Hid (BlkB lt B (2 * q) n dk)∧Hid (PermIn 0 n d dk)∧Aside (SWC enc k w blk off g lb sf sb d dk wr)) (fun va _ _=>n - (intOf va).toNat)
         case atStart=>exact ⟨0,0,dB,rfl,by go_num,Nat.zero_le _,(Nat.zero_mul _).symm,fun q h=>absurd h (Nat.not_lt_zero _),BB,PM,S1⟩
         case round =>
           clear BB PM S1
           obtain ⟨x,q,dk,rfl,rfl,hxn,HX,BA,BB,PM,S⟩:=hrel
           have c0:=S.out.c0
           have c1:=S.out.c1
           have hnx:=blkB_next BB.out
           rw [←HC.out,←HX.out] at hnx
           have HNX:=Lib.hid hnx
           clear hnx
           obtain ⟨z,hz⟩:∃ z,z=x + B:=⟨_,rfl⟩
           have hz1:(x:Int) + (B:Int)=(z:Int):=by omega
           have HZ:=Lib.hid hz
           have hzx:x < z:=by omega
           clear hz
           obtain ⟨y,hy⟩:∃ y,y=x + C:=⟨_,rfl⟩
           have hy1:(x:Int) + (C:Int)=(y:Int):=by omega
           have HY:=Lib.hid hy
           have hyx:x < y:=by omega
           have HYZ:Hid (y=z + B):=Lib.hid (by have h1:=HZ.out;have h2:=HC.out;omega)
           clear hy
           by_cases hyn:y≤n
           · have b2:decide (y≤n)=true:=by simpa using hyn
             go_wp2_with (first
               | (go_at_fn (ρ.f 30);(with_reducible refine (HK.out.sym dk wr x z y S.out hzx (by have:=HYZ.out;omega) (by rw [←HN.out];exact hyn) (sortedIn_sub HNX.out.1 (Nat.le_refl _) (by have h1:=HZ.out;have h2:=HYZ.out;omega)) (sortedIn_sub HNX.out.2 (by have h1:=HZ.out;omega) (by have h1:=HZ.out;have h2:=HYZ.out;omega))).mono ?_);rintro r w2 ⟨rfl,d2,p2,s2,t2⟩;have P2:=Lib.hid p2;have Q2:=Lib.hid s2;have S2:Aside (SWC enc k w blk off g lb sf sb d d2 w2):=t2;clear p2 s2 t2)
               | fail)
             go_roundw
             · have h1:=HX.out
               have h2:=HY.out
               have h3:q * C + C=y:=by omega
               refine ⟨y,q + 1,d2,rfl,rfl,hyn,by show y=(q + 1) * C;rw [Nat.succ_mul];omega,?_,?_,?_,S2⟩
               · refine blkA_step BA.out ?_ ?_
                 · rw [h3,←h1];exact P2.out
                 · rw [h3,←h1];exact Q2.out
               · refine blkB_step BB.out ?_
                 rw [←HC.out,h3,←h1];exact P2.out
               · exact permIn_trans _ _ _ _ _ PM.out (permIn_mono dk d2 x y 0 n (Nat.zero_le _) hyn (by rw [PM.out.1,HN.out];exact Nat.le_refl _) P2.out)
             · have h2:=HY.out
               simp [intOf];omega
           · have b2:decide (y≤n)=false:=by simp;omega
             by_cases hzn:z < n
             · have b3:decide (z < n)=true:=by simpa using hzn
               go_wp2_with (first
                 | (go_at_fn (ρ.f 30);(with_reducible refine (HK.out.sym dk wr x z n S.out hzx hzn (by rw [←HN.out];exact Nat.le_refl _) (sortedIn_sub HNX.out.1 (Nat.le_refl _) (by have h1:=HZ.out;omega)) (sortedIn_sub HNX.out.2 (by have h1:=HZ.out;omega) (by have h1:=HZ.out;have h2:=HYZ.out;omega))).mono ?_);rintro r w2 ⟨rfl,d2,p2,s2,t2⟩;have HB2:Hid (BlkB lt C 0 n d2):=Lib.hid (by have h1:=HX.out;have h2:=HY.out;rw [h1] at p2 s2;exact blkA_end BA.out (by omega) p2 s2);have PM2:Hid (PermIn 0 n d d2):=Lib.hid (permIn_trans _ _ _ _ _ PM.out (permIn_mono dk d2 x n 0 n (Nat.zero_le _) (Nat.le_refl _) (by rw [PM.out.1,HN.out];exact Nat.le_refl _) p2));have S2:Aside (SWC enc k w blk off g lb sf sb d d2 w2):=t2;clear p2 s2 t2)
                 | fail)
               go_roundw
               · exact ⟨C,d2,rfl,hC4,hC3,HB2,PM2,S2⟩
               · have h2:=HC.out
                 simp [intOf];omega
             · have b3:decide (z < n)=false:=by simp;omega
               have HB2:Hid (BlkB lt C 0 n dk):=Lib.hid (by
                 have h1:=HX.out
                 have h2:=HY.out
                 refine blkA_end BA.out (by omega) (permIn_refl _ _ _) ?_
                 rw [←h1]
                 exact sortedIn_sub HNX.out.1 (Nat.le_refl _) (by have h1:=HZ.out;omega))
               go_wp2_with fail
               go_roundw
               · exact ⟨C,dk,rfl,hC4,hC3,HB2,PM,S⟩
               · have h2:=HC.out
                 simp [intOf];omega
       · have b1:decide (B < n)=false:=by simp;omega
         go_wp2_with fail
         go_end0
         exact ⟨rfl,dB,PM.out,blkB_all BB.out (by omega),S.out.sw⟩
theorem sliceStable_cells (L:LaysGt.n8 P ρ) (t e:TypeId) (i ie:TypeInfo) (hi:P.info? t=some i) (hd:i.desc=.slice e) (hpk:P.packed t=false) (hie:P.info? e=some ie) (ke:Nat) (hke:∀ w,(Extern.Rtype.kind e).run P w=.ok ke w)
   (enc:α→List Value) (k:Nat) (hk:∀ x,(enc x).length=k) (hs1:ie.size=k) (hagg:∀ w,(isAgg e).run P w=.ok true w) (h1:∀ x,∀ v∈enc x,v.oneCell'=true) (lt:α→α→Bool) (hO:SWO lt) (g:Nat) (lb:Array Value)
   (eg:∀ args w,(callFunc g args).run P w=.ok (.enter g args) w) (blk off c:Nat) (d:Array α) (h2:2≤d.size) (hsz:d.size < 1152921504606846976)
   (f : Nat) (hf : P.funcs.findIdx? (·.name == "internal/reflectlite" ++ ".Swapper$" ++ toString (swapperK d.size ie ke)) = some f)
   (gS:Bool) (hx:∀ args W,(callFunc f args).run P W=((Extern.ReflectliteSwapper.swap gS args).run P W).andThen fun v w'=>.ok (.value v) w')
   (w:World) (hless:LessK P g lb enc k lt blk off d.size w) (hH:HoldsK enc k w blk off d) (hblk:blk < w.heap.size) :
   Calls P (ρ.f 8) #[.iface t (.slice (some ⟨blk,off,none⟩) d.size c),.func (.func g) #[] lb] w fun e w' =>
     e=.returned (.tuple #[])∧∃ d',PermIn 0 d.size d d'∧SortedIn lt 0 d.size d'∧SWK enc k w blk off d' w':=by
 refine Any.sort_SliceStable_of_stable L t e i ie hi hd hpk hie ke hke _ d.size c (by omega) f hf (.func g) #[] lb w _ ?_
 have hB:sliceBound P e ie ke (some ⟨blk,off,none⟩) d.size c=#[.slice (some ⟨blk,off,none⟩) d.size c,typeHandle P e]:=by
   unfold sliceBound;rw [if_neg (swapperK_gt _ _ _ h2)]
 have hW:stableWorld P ρ t (some ⟨blk,off,none⟩) d.size c w=grow w #[.cells #[.slice (some ⟨blk,off,none⟩) d.size c] t,.cells #[.pointer (some ⟨P.globals.size,t,none⟩),.pointer (some ⟨w.heap.size,0,none⟩),.int .u64 151] (ρ.t 36)]:=by
   unfold stableWorld;rw [alloc_eq_grow,alloc_eq_grow,grow_grow];rfl
 generalize (#[.cells #[.slice (some ⟨blk,off,none⟩) d.size c] t,.cells #[.pointer (some ⟨P.globals.size,t,none⟩),.pointer (some ⟨w.heap.size,0,none⟩),.int .u64 151] (ρ.t 36)]:Array Obj)=os0 at hW
 rw [hB,hW]
 have hp:=stable_cells (P:=P) (ρ:=ρ) { L with } enc k hk g lb f _ lt hO eg blk off d.size d (grow w os0) (hless.of ⟨0,os0,by show Sort.grow w os0=Sort.grow (putRowK enc k w blk off d) os0;rw [putRowK_self enc k _ blk off d hH]⟩ hblk rfl)
   (swapSwapsK_of_literal gS f hx e ie hie enc k hk hs1 hagg h1 blk off d.size c) (holdsK_grow enc k w _ blk off d hblk hH) (by rw [size_grow];omega) rfl hsz
 refine hp.mono ?_
 rintro e w' ⟨rfl,d',q1,q2,n,os,rfl⟩
 exact ⟨rfl,d',q1,q2,n,_,by unfold sortWorldK;rw [ahead_grow,putRowK_grow enc k (Sort.ahead w n) _ blk off _ hblk,grow_grow]⟩
end Go.Proofs.YtddbpnplbcjpgaaGreatDoor
namespace Go.Proofs.YtddbpnplbcjpgaaGreatDoor
open Go.RowKit
theorem atIs.place {w:World} {v:Value} {e:Nat} {pl:Int} (h:atIs w v (e,pl)):placeIs w v e pl:=by
 rcases h with ⟨h1,h2⟩ | ⟨_,b,h1,_,h3,h4⟩
 · simp only [Prod.mk.injEq] at h1
   exact .inl ⟨h2,by omega,h1.2⟩
 · exact .inr (.inr ⟨b,0,h1,h3,h4⟩)
theorem atIs.isErr {w:World} {v:Value} {r:Nat×Int} (h:atIs w v r) (h0:r.1≠0):isErr w v (r.1:Nat):=by
 rcases h with ⟨h1,h2⟩ | ⟨_,b,h1,_,h3,h4⟩
 · exact absurd (by rw [h1]) h0
 · exact .inr ⟨b,0,_,h1,h3,h4⟩
def anyErr (w:World) (v:Value) (r:Nat×Int):Prop:=atIs w v r∨(r.1≠0∧r.2=-1∧v=.iface 40 (.int .i64 (r.1:Nat)))
theorem anyErr.below {w w':World} {v:Value} {r:Nat×Int} (h:anyErr w v r) (hb:Below w.heap.size w w'):anyErr w' v r:=by
 rcases h with h | h
 · exact .inl (h.below hb)
 · exact .inr h
theorem anyErr.nil {w:World} {v:Value} {r:Nat×Int} (h:anyErr w v r) (h0:r.1=0):v=.nilIface:=by
 rcases h with (⟨_,h⟩ | ⟨h,_⟩) | ⟨h,_⟩
 · exact h
 · exact absurd h0 h
 · exact absurd h0 h
theorem anyErr.iface {w:World} {v:Value} {r:Nat×Int} (h:anyErr w v r) (h0:r.1≠0):∃ t u,v=.iface t u:=by
 rcases h with (⟨h,_⟩ | ⟨_,b,h,_⟩) | ⟨_,_,h⟩
 · exact absurd (by rw [h]) h0
 · exact ⟨_,_,h⟩
 · exact ⟨_,_,h⟩
theorem anyErr.place {w:World} {v:Value} {e:Nat} {pl:Int} (h:anyErr w v (e,pl)):placeIs w v e pl:=by
 rcases h with h | ⟨_,h1,h2⟩
 · exact h.place
 · exact .inr (.inl ⟨h2,h1⟩)
theorem anyErr.isErr {w:World} {v:Value} {r:Nat×Int} (h:anyErr w v r) (h0:r.1≠0):isErr w v (r.1:Nat):=by
 rcases h with h | ⟨_,h1,h2⟩
 · exact h.isErr h0
 · exact .inl h2
def VRightIs (w:World) (r:Nat×Int) (e:Ending) (w':World):Prop :=
 ∃ v,e=.returned v∧anyErr w' v r∧Below w.heap.size w w'
theorem undrew3 {w w':World} (h:Below w.drew.heap.size w.drew w'):Below w.heap.size w w':=((Below.refl _ _).drew).trans h
theorem below_drewq {w w':World} {B:Nat} (h:Below B w w') (q:Nat):Below B w (w'.drewN q):=by
 induction q with
 | zero=>exact h
 | succ q ih=>exact ih.drew
end Go.Proofs.YtddbpnplbcjpgaaGreatDoor
namespace Go.Proofs.YtddbpnplbcjpgaaGreatDoor
open Go.RowKit
set_option maxRecDepth 100000 in
set_option maxHeartbeats 2000000 in
theorem vwrong_any (v:Value) (l:List Ent) (k:Nat) (e:Ent) (last:Int) (w:World) (hv:IsEnts w v l) (hl:l.length≤1000000) (he:l[k]? = some e) (h0:(k=0∧last=-1)∨∃ j d,k=j + 1∧l[j]? = some d∧last=d.rep) :
   Calls Tryz.prog 75 #[v,.int .i64 (k:Int)] w fun r w'=>r=.returned (.int .i64 (wrE e last:Nat))∧Below w.heap.size w w':=by
 obtain ⟨a1,c1,rfl,f1⟩:=hv.form
 obtain ⟨n,hn⟩:∃ n,n=l.length:=⟨_,rfl⟩
 have hkl:k < n:=by rw [hn];exact (List.getElem?_eq_some_iff.1 he).1
 rw [←hn] at hl ⊢
 obtain ⟨b1,o1,rfl,hb1,p0,p1⟩:=f1 k e he
 obtain ⟨rep,time⟩:=e
 simp only at p0 p1
 by_cases hr:rep < 0∨200 < rep∨time < 1∨1099511627776 < time
 · have HW:Hid (wrE ⟨rep,time⟩ last=2):=Lib.hid (wrE_range hr)
   have HR:=Lib.hid hr
   clear hv f1 hn he h0 hr
   rw [HW.out]
   by_cases h1:rep < 0
   · go_enter Tryz.func75,Tryz.ntmps75
     go_wp2
     go_ret
     exact ⟨rfl,(Below.refl _ _).alloc (Nat.le_refl _) _⟩
   · by_cases h2:200 < rep
     · go_enter Tryz.func75,Tryz.ntmps75
       go_wp2
       go_ret
       exact ⟨rfl,(Below.refl _ _).alloc (Nat.le_refl _) _⟩
     · by_cases h3:time < 1
       · go_enter Tryz.func75,Tryz.ntmps75
         go_wp2
         go_ret
         exact ⟨rfl,(Below.refl _ _).alloc (Nat.le_refl _) _⟩
       · have h4:1099511627776 < time:=by have:=HR.out;omega
         go_enter Tryz.func75,Tryz.ntmps75
         go_wp2
         go_ret
         exact ⟨rfl,(Below.refl _ _).alloc (Nat.le_refl _) _⟩
 · have g1:0≤rep:=by omega
   have g2:rep≤200:=by omega
   have g3:1≤time:=by omega
   have g4:time≤1099511627776:=by omega
   rcases h0 with ⟨hk0,rfl⟩ | ⟨j,d,rfl,hd,rfl⟩
   · have HW:Hid (wrE ⟨rep,time⟩ (-1)=0):=Lib.hid (wrE_fine hr (by simp only;omega))
     have z1:¬ 0 < k:=by omega
     have z2:decide (0 < k)=false:=by simp;omega
     have z3:decide ((0:Int) < (k:Int))=false:=by simp;omega
     clear hv f1 hn he hr hk0
     rw [HW.out]
     go_enter Tryz.func75,Tryz.ntmps75
     go_wp2
     go_quiet (fail)
     go_wp2
     go_ret
     exact ⟨rfl,below_drewN ((Below.refl _ _).alloc (Nat.le_refl _) _) _⟩
   · obtain ⟨b2,o2,hbo,_,q0,_⟩:=f1 j d hd
     simp only [Option.some.injEq,Addr.mk.injEq,and_true] at hbo
     obtain ⟨rfl,rfl⟩:=hbo
     obtain ⟨last,dt⟩:=d
     simp only at q0
     obtain ⟨k,hk⟩:∃ k,k=j + 1:=⟨_,rfl⟩
     rw [←hk] at he hkl p0 p1 ⊢
     have hj1:(k:Int) - 1=(j:Int):=by omega
     have hj2:IntKind.i64.wrap ((k:Int) - 1)=(j:Int):=by rw [hj1];exact IntWalk.i64_in _ (by omega)
     have hk0:(0:Int) < (k:Int):=by omega
     have z1:0 < k:=by omega
     have z2:decide (0 < k)=true:=by simp;omega
     have z3:decide ((0:Int) < (k:Int))=true:=by simp;omega
     have hjn:(j:Int) < (n:Int):=by omega
     have hjn':j < n:=by omega
     have hj0:(0:Int)≤(j:Int):=by omega
     have q0':=(World.cell?_alloc_lt w (.cells #[.int .i64 rep,.int .i64 time] 62) (⟨b1,o1 + j * 2,none⟩:Addr) hb1).trans q0
     by_cases h5:rep≤last
     · have HW:Hid (wrE ⟨rep,time⟩ (Ent.mk last dt).rep=10):=Lib.hid (wrE_order hr h5)
       clear hv f1 hn he hr hd hk
       rw [HW.out]
       go_enter Tryz.func75,Tryz.ntmps75
       go_wp2
       go_quiet (fail)
       go_wp2
       go_ret
       exact ⟨rfl,below_drewN ((Below.refl _ _).alloc (Nat.le_refl _) _) _⟩
     · have HW:Hid (wrE ⟨rep,time⟩ (Ent.mk last dt).rep=0):=Lib.hid (wrE_fine hr h5)
       clear hv f1 hn he hr hd hk
       rw [HW.out]
       go_enter Tryz.func75,Tryz.ntmps75
       go_wp2
       go_quiet (fail)
       go_wp2
       go_ret
       exact ⟨rfl,below_drewN ((Below.refl _ _).alloc (Nat.le_refl _) _) _⟩
set_option maxRecDepth 100000 in
set_option maxHeartbeats 2000000 in
theorem vright_few (v:Value) (l:List Ent) (w:World) (hv:IsEnts w v l) (hl:l.length≤16) :
   Calls Tryz.prog 41 #[v] w (RightIs w (vr l 0 (-1))):=by
 have HV:=Lib.hid hv
 obtain ⟨a1,c1,rfl,f1⟩:=hv.form
 obtain ⟨n,hn⟩:∃ n,n=l.length:=⟨_,rfl⟩
 rw [←hn] at hl HV ⊢
 have HN:=Lib.hid hn
 clear hv f1 hn
 go_enter Tryz.func41,Tryz.ntmps41
 go_wp2
 go_loopw [11] (fun i wr=>∃ (k:Nat) (last:Int),k≤n∧i=.int .i64 k∧((k=0∧last=-1)∨∃ j d,k=j + 1∧l[j]? = some d∧last=d.rep)∧vr l 0 (-1)=vr (l.drop k) k last∧Below w.heap.size w wr) (fun i _=>n - (intOf i).toNat)
 case atStart=>exact ⟨0,-1,by omega,rfl,.inl ⟨rfl,rfl⟩,rfl,Below.refl _ _⟩
 case round =>
   obtain ⟨k,last,hk,rfl,hla,heq,hbel⟩:=hrel
   have HEQ:=Lib.hid heq
   have HLA:=Lib.hid hla
   have HB:=Lib.hid hbel
   have hzr:=hbel.size
   clear heq hbel hla
   by_cases hlt:k < n
   · have hkl:k < l.length:=by have:=HN.out;omega
     obtain ⟨t,ht⟩:∃ t,l[k]? = some t:=⟨l[k],List.getElem?_eq_getElem hkl⟩
     have hd:l.drop k=t :: l.drop (k + 1):=by
       rw [List.drop_eq_getElem_cons hkl];congr 1
       rw [List.getElem?_eq_getElem hkl] at ht;exact Option.some.inj ht
     have HD:=Lib.hid hd
     have HT:=Lib.hid ht
     obtain ⟨e,he⟩:∃ e,wrE t last=e:=⟨_,rfl⟩
     have HE:=Lib.hid he
     clear ht hkl hd he
     go_wp2_with fail
     refine (vwrong_any _ l k t last _ (HV.out.below (HB.out.mono (Nat.le_refl _))) (by have:=HN.out;omega) HT.out HLA.out).mono ?_
     rintro r w1 ⟨rfl,hb1⟩
     rw [HE.out]
     have HB1:Hid (Below w.heap.size w w1):=HB.out.trans (hb1.mono hzr)
     have hz1:=HB1.out.size
     clear hb1
     by_cases h0:e=0
     · subst h0
       have HN2:Hid (vr l 0 (-1)=vr (l.drop (k + 1)) (k + 1) t.rep):=Lib.hid (show vr l 0 (-1)=vr (l.drop (k + 1)) (k + 1) t.rep by rw [HEQ.out,HD.out,vr_good HE.out])
       go_wp2
       go_roundw
       case rel=>exact ⟨k + 1,t.rep,by omega,by go_num,.inr ⟨k,t,rfl,HT.out,rfl⟩,HN2.out,HB1.out⟩
       case measure=>simp [intOf];omega
     · have HN2:Hid (vr l 0 (-1)=(e,(k:Int))):=Lib.hid (show vr l 0 (-1)=(e,(k:Int)) by rw [HEQ.out,HD.out,vr_bad (by rw [HE.out];exact h0),HE.out])
       have hne:((e:Int) != 0)=true:=by simp;omega
       have H0:=Lib.hid h0
       clear h0
       go_wp2
       go_ret
       rw [HN2.out]
       exact ⟨_,rfl,atIs.new w1 e k H0.out,HB1.out.alloc hz1 _⟩
   · have HN2:Hid (vr l 0 (-1)=(0,-1)):=Lib.hid (show vr l 0 (-1)=(0,-1) by rw [HEQ.out,List.drop_eq_nil_of_le (by have:=HN.out;omega)];rfl)
     go_wp2
     go_ret
     exact ⟨_,rfl,.inl ⟨HN2.out,rfl⟩,HB.out⟩
theorem vright_any (v:Value) (l:List Ent) (w:World) (hv:IsEnts w v l) (hl:l.length≤9223372036854775807) :
   Calls Tryz.prog 41 #[v] w (VRightIs w (vrightF l)):=by
 by_cases h:16 < l.length
 · have HW:Hid (vrightF l=(4,-1)):=Lib.hid (show vrightF l=(4,-1) by unfold vrightF;rw [if_pos h])
   obtain ⟨a1,c1,rfl,_⟩:=hv.form
   obtain ⟨n,hn⟩:∃ n,n=l.length:=⟨_,rfl⟩
   rw [←hn] at h hl ⊢
   clear hv hn
   rw [HW.out]
   have h2:16 < (n:Int):=by omega
   go_enter Tryz.func41,Tryz.ntmps41
   go_wp2
   go_ret
   exact ⟨_,rfl,.inr ⟨by decide,rfl,rfl⟩,Below.refl _ _⟩
 · refine (vright_few v l w hv (by omega)).mono ?_
   rintro e w' ⟨x,h1,h2,h3⟩
   refine ⟨x,h1,.inl ?_,h3⟩
   unfold vrightF;rw [if_neg h];exact h2
end Go.Proofs.YtddbpnplbcjpgaaGreatDoor
namespace Go.Proofs.YtddbpnplbcjpgaaGreatDoor
open Go.RowKit
structure LogIn (w:World) (P:Nat) (F:Nat→Prop) (s:LogS) (vh vw:Value):Prop where
 row:w.heap[P]? = some (.cells #[.int .i64 s.rep,vh,vw] 72 (0,0))
 ents:ownsE w 0 vh s.hv
 ows:ownsW w 0 vw s.ws
 inP:F P
 inE:∀ k,vh.ownBlock=some k→F k
 inW:∀ k,vw.ownBlock=some k→F k
 lt:∀ k,F k→k < w.heap.size
 nil:s.ws=[]→vw=.slice none 0 0
def LogAt (w:World) (P:Nat) (F:Nat→Prop) (s:LogS):Prop:=∃ vh vw,LogIn w P F s vh vw
theorem LogIn.but {w w':World} {P:Nat} {F G:Nat→Prop} {s:LogS} {vh vw:Value} (h:LogIn w P F s vh vw) (hb:But G w w') (hd:∀ k,F k→¬ G k):LogIn w' P F s vh vw :=
 ⟨(hb.block P (h.lt P h.inP) (hd P h.inP)).trans h.row,ownsRow_but h.ents hb (fun k e=>hd k (h.inE k e)),ownsRow_but h.ows hb (fun k e=>hd k (h.inW k e)),h.inP,h.inE,h.inW,fun k hk=>Nat.lt_of_lt_of_le (h.lt k hk) hb.size,h.nil⟩
theorem LogIn.below {w w':World} {P:Nat} {F:Nat→Prop} {s:LogS} {vh vw:Value} (h:LogIn w P F s vh vw) (hb:Below w.heap.size w w'):LogIn w' P F s vh vw :=
 h.but (G:=fun _=>False) (But.of_below hb) (fun _ _ h=>h)
theorem LogAt.but {w w':World} {P:Nat} {F G:Nat→Prop} {s:LogS} (h:LogAt w P F s) (hb:But G w w') (hd:∀ k,F k→¬ G k):LogAt w' P F s:=by
 obtain ⟨vh,vw,h⟩:=h
 exact ⟨vh,vw,h.but hb hd⟩
theorem LogAt.below {w w':World} {P:Nat} {F:Nat→Prop} {s:LogS} (h:LogAt w P F s) (hb:Below w.heap.size w w'):LogAt w' P F s:=by
 obtain ⟨vh,vw,h⟩:=h
 exact ⟨vh,vw,h.below hb⟩
theorem LogAt.alloc {w:World} {P:Nat} {F:Nat→Prop} {s:LogS} (h:LogAt w P F s) (o:Obj):LogAt (w.alloc o) P F s:=h.below ((Below.refl _ _).alloc (Nat.le_refl _) o)
theorem LogAt.drew {w:World} {P:Nat} {F:Nat→Prop} {s:LogS} (h:LogAt w P F s):LogAt w.drew P F s:=h.below (Below.refl _ _).drew
theorem LogAt.drewN {w:World} {P:Nat} {F:Nat→Prop} {s:LogS} (h:LogAt w P F s) (n:Nat):LogAt (w.drewN n) P F s:=h.below (below_drewq (Below.refl _ _) n)
theorem LogAt.lt {w:World} {P:Nat} {F:Nat→Prop} {s:LogS} (h:LogAt w P F s):∀ k,F k→k < w.heap.size:=by
 obtain ⟨vh,vw,h⟩:=h
 exact h.lt
theorem LogAt.inP {w:World} {P:Nat} {F:Nat→Prop} {s:LogS} (h:LogAt w P F s):F P:=by
 obtain ⟨vh,vw,h⟩:=h
 exact h.inP
theorem LogIn.plt' {w:World} {P:Nat} {F:Nat→Prop} {s:LogS} {vh vw:Value} (h:LogIn w P F s vh vw):P < w.heap.size:=h.lt P h.inP
theorem LogAt.plt {w:World} {P:Nat} {F:Nat→Prop} {s:LogS} (h:LogAt w P F s):P < w.heap.size:=h.lt P h.inP
theorem LogIn.c0 {w:World} {P:Nat} {F:Nat→Prop} {s:LogS} {vh vw:Value} (h:LogIn w P F s vh vw):w.cell? ⟨P,0,none⟩=some (.int .i64 s.rep):=cell_of_row _ _ 0 _ _ _ h.row
theorem LogIn.c1 {w:World} {P:Nat} {F:Nat→Prop} {s:LogS} {vh vw:Value} (h:LogIn w P F s vh vw):w.cell? ⟨P,1,none⟩=some vh:=cell_of_row _ _ 1 _ _ _ h.row
theorem LogIn.c2 {w:World} {P:Nat} {F:Nat→Prop} {s:LogS} {vh vw:Value} (h:LogIn w P F s vh vw):w.cell? ⟨P,2,none⟩=some vw:=cell_of_row _ _ 2 _ _ _ h.row
def Sep (F G:Nat→Prop):Prop:=∀ k,F k→¬ G k
theorem Sep.symm {F G:Nat→Prop} (h:Sep F G):Sep G F:=fun k g f=>h k f g
theorem Sep.grow {w:World} {F F' G:Nat→Prop} (h:Sep F G) (hF:∀ k,F' k→F k∨w.heap.size≤k) (hG:∀ k,G k→k < w.heap.size):Sep F' G:=fun k f g=>by
 rcases hF k f with f | f
 · exact h k f g
 · have:=hG k g;omega
end Go.Proofs.YtddbpnplbcjpgaaGreatDoor
