/- A part. -/
import Derived.Test.YtpnghfghdbijlaaGreatDoorM33
open Go.Proofs.Tryz
namespace Go.Proofs.YtpnghfghdbijlaaGreatDoor
open Go.RowKit
set_option linter.unusedVariables false
set_option linter.unusedSimpArgs false
set_option maxRecDepth 100000
set_option maxHeartbeats 40000000
section
open Go.RowKit Go.Maps
set_option maxRecDepth 100000
theorem fr0_3_4_5_6_7_9_10_12_13 {a:Act} (hd:a.defers=[]) (hs:a.tmps.size=408) {v0 v3 v4 v5 v6 v7 v9 v10 v12 v13:Value} (h0:a.tmps.toList[0]?=some v0) (h3:a.tmps.toList[3]?=some v3) (h4:a.tmps.toList[4]?=some v4) (h5:a.tmps.toList[5]?=some v5) (h6:a.tmps.toList[6]?=some v6) (h7:a.tmps.toList[7]?=some v7) (h9:a.tmps.toList[9]?=some v9) (h10:a.tmps.toList[10]?=some v10) (h12:a.tmps.toList[12]?=some v12) (h13:a.tmps.toList[13]?=some v13):∃f:Nat→Value,a=⟨((v0 :: f 1 :: f 2 :: v3 :: v4 :: v5 :: v6 :: v7 :: f 8 :: v9 :: v10 :: f 11 :: v12 :: v13 :: f 14 :: f 15 :: f 16 :: f 17 :: f 18 :: f 19 :: f 20 :: f 21 :: f 22 :: f 23 :: f 24 :: f 25 :: f 26 :: f 27 :: f 28 :: f 29 :: f 30 :: f 31 :: f 32 :: f 33 :: f 34 :: f 35 :: f 36 :: f 37 :: f 38 :: f 39 :: f 40 :: f 41 :: f 42 :: f 43 :: f 44 :: f 45 :: f 46 :: f 47 :: f 48 :: f 49 :: f 50 :: f 51 :: f 52 :: f 53 :: f 54 :: f 55 :: f 56 :: f 57 :: f 58 :: f 59 :: f 60 :: f 61 :: f 62 :: f 63 :: f 64 :: f 65 :: f 66 :: f 67 :: f 68 :: f 69 :: f 70 :: f 71 :: f 72 :: f 73 :: f 74 :: f 75 :: f 76 :: f 77 :: f 78 :: f 79 :: f 80 :: f 81 :: f 82 :: f 83 :: f 84 :: f 85 :: f 86 :: f 87 :: f 88 :: f 89 :: f 90 :: f 91 :: f 92 :: f 93 :: f 94 :: f 95 :: f 96 :: f 97 :: f 98 :: f 99 :: f 100 :: f 101 :: f 102 :: f 103 :: f 104 :: f 105 :: f 106 :: f 107 :: f 108 :: f 109 :: f 110 :: f 111 :: f 112 :: f 113 :: f 114 :: f 115 :: f 116 :: f 117 :: f 118 :: f 119 :: f 120 :: f 121 :: f 122 :: f 123 :: f 124 :: f 125 :: f 126 :: f 127 :: f 128 :: f 129 :: f 130 :: f 131 :: f 132 :: f 133 :: f 134 :: f 135 :: f 136 :: f 137 :: f 138 :: f 139 :: f 140 :: f 141 :: f 142 :: f 143 :: f 144 :: f 145 :: f 146 :: f 147 :: f 148 :: f 149 :: f 150 :: f 151 :: f 152 :: f 153 :: f 154 :: f 155 :: f 156 :: f 157 :: f 158 :: f 159 :: f 160 :: f 161 :: f 162 :: f 163 :: f 164 :: f 165 :: f 166 :: f 167 :: f 168 :: f 169 :: f 170 :: f 171 :: f 172 :: f 173 :: f 174 :: f 175 :: f 176 :: f 177 :: f 178 :: f 179 :: f 180 :: f 181 :: f 182 :: f 183 :: f 184 :: f 185 :: f 186 :: f 187 :: f 188 :: f 189 :: f 190 :: f 191 :: f 192 :: f 193 :: f 194 :: f 195 :: f 196 :: f 197 :: f 198 :: f 199 :: f 200 :: f 201 :: f 202 :: f 203 :: f 204 :: f 205 :: f 206 :: f 207 :: f 208 :: f 209 :: f 210 :: f 211 :: f 212 :: f 213 :: f 214 :: f 215 :: f 216 :: f 217 :: f 218 :: f 219 :: f 220 :: f 221 :: f 222 :: f 223 :: f 224 :: f 225 :: f 226 :: f 227 :: f 228 :: f 229 :: f 230 :: f 231 :: f 232 :: f 233 :: f 234 :: f 235 :: f 236 :: f 237 :: f 238 :: f 239 :: f 240 :: f 241 :: f 242 :: f 243 :: f 244 :: f 245 :: f 246 :: f 247 :: f 248 :: f 249 :: f 250 :: f 251 :: f 252 :: f 253 :: f 254 :: f 255 :: f 256 :: f 257 :: f 258 :: f 259 :: f 260 :: f 261 :: f 262 :: f 263 :: f 264 :: f 265 :: f 266 :: f 267 :: f 268 :: f 269 :: f 270 :: f 271 :: f 272 :: f 273 :: f 274 :: f 275 :: f 276 :: f 277 :: f 278 :: f 279 :: f 280 :: f 281 :: f 282 :: f 283 :: f 284 :: f 285 :: f 286 :: f 287 :: f 288 :: f 289 :: f 290 :: f 291 :: f 292 :: f 293 :: f 294 :: f 295 :: f 296 :: f 297 :: f 298 :: f 299 :: f 300 :: f 301 :: f 302 :: f 303 :: f 304 :: f 305 :: f 306 :: f 307 :: f 308 :: f 309 :: f 310 :: f 311 :: f 312 :: f 313 :: f 314 :: f 315 :: f 316 :: f 317 :: f 318 :: f 319 :: f 320 :: f 321 :: f 322 :: f 323 :: f 324 :: f 325 :: f 326 :: f 327 :: f 328 :: f 329 :: f 330 :: f 331 :: f 332 :: f 333 :: f 334 :: f 335 :: f 336 :: f 337 :: f 338 :: f 339 :: f 340 :: f 341 :: f 342 :: f 343 :: f 344 :: f 345 :: f 346 :: f 347 :: f 348 :: f 349 :: f 350 :: f 351 :: f 352 :: f 353 :: f 354 :: f 355 :: f 356 :: f 357 :: f 358 :: f 359 :: f 360 :: f 361 :: f 362 :: f 363 :: f 364 :: f 365 :: f 366 :: f 367 :: f 368 :: f 369 :: f 370 :: f 371 :: f 372 :: f 373 :: f 374 :: f 375 :: f 376 :: f 377 :: f 378 :: f 379 :: f 380 :: f 381 :: f 382 :: f 383 :: f 384 :: f 385 :: f 386 :: f 387 :: f 388 :: f 389 :: f 390 :: f 391 :: f 392 :: f 393 :: f 394 :: f 395 :: f 396 :: f 397 :: f 398 :: f 399 :: f 400 :: f 401 :: f 402 :: f 403 :: f 404 :: f 405 :: f 406 :: f 407 :: []):List Value).toArray,[]⟩:=by
 obtain⟨f,hf⟩:=aee hs
 obtain⟨tm,df⟩:=a
 dsimp only at hd hs hf h0 h3 h4 h5 h6 h7 h9 h10 h12 h13
 subst hd hf
 have e0:f 0=v0:=Option.some.inj h0
 subst e0
 have e3:f 3=v3:=Option.some.inj h3
 subst e3
 have e4:f 4=v4:=Option.some.inj h4
 subst e4
 have e5:f 5=v5:=Option.some.inj h5
 subst e5
 have e6:f 6=v6:=Option.some.inj h6
 subst e6
 have e7:f 7=v7:=Option.some.inj h7
 subst e7
 have e9:f 9=v9:=Option.some.inj h9
 subst e9
 have e10:f 10=v10:=Option.some.inj h10
 subst e10
 have e12:f 12=v12:=Option.some.inj h12
 subst e12
 have e13:f 13=v13:=Option.some.inj h13
 subst e13
 exact⟨f,rfl⟩
def tellC (B k:Nat) (w:World) (zb:Nat) (m:ZM) (s:ZS):{ G:(Act→World→Prop)→Nat→(Act→World→Prop)→Nat→Int→(Act→World→Prop)→Option Addr→Nat→Nat→(Act→World→Prop)→Nat→(Act→World→Prop)→(Act→World→Prop)→Nat→Nat→Nat→World→(Act→World→Prop)→Prop // ZAt B k w zb m s→(∀(K0:Act→World→Prop) (j:Nat) (K:Act→World→Prop) (tb:Nat) (L2:Int) (K1:Act→World→Prop) (gi:Option Addr) (n0 ci:Nat) (K4:Act→World→Prop) (q:Nat) (K2 K5:Act→World→Prop) (vb p ob:Nat) (w9:World) (K':Act→World→Prop) (o:Th) (y:HO) (k2:Bool) (vo:Value),s.T[p]?=some o→m.bs[p]?=some ob→m.vis[p]?=some vo→s.known[p]?=some k2→(aao s.P (s.ad p)=some y∧IsTh s.here s.ad o y)→(k2=true→s.wh[p]?=some (toA (s.ad p)))→Tj w w9 s.T s.here (j+1) (.slice gi n0 ci)→w9.heap[vb]?=some (.cells #[.int .i64 (toA (s.ad p)).kind,.int .i64 (toA (s.ad p)).n,.string (toA (s.ad p)).s] 69 (0,0))→(∀(a':Act) (wx:World),a'.defers=[]∧a'.tmps.size=408∧a'.tmps.toList[0]?=some (.pointer (some ⟨zb,0,none⟩))∧a'.tmps.toList[3]?=some (.int .i64 L2)∧a'.tmps.toList[4]?=some (.slice gi n0 ci)∧a'.tmps.toList[5]?=some (.int .i64 (j:Int))∧a'.tmps.toList[6]?=some (.pointer (some ⟨tb,0,none⟩))∧a'.tmps.toList[7]?=some (.int .i64 (s.ad j))∧a'.tmps.toList[9]?=some (.int .i64 (q:Int))∧a'.tmps.toList[287]?=some (.bool false)∧Hid (Below w9.heap.size w9 wx)→K' a' wx)→G K0 j K tb L2 K1 gi n0 ci K4 q K2 K5 vb p ob w9 K')→∀(K0:Act→World→Prop) (j:Nat) (K:Act→World→Prop) (tb:Nat) (L2:Int) (K1:Act→World→Prop) (gi:Option Addr) (n0 ci:Nat) (w7:World) (K4:Act→World→Prop) (t:Th) (vi:Value) (hr:Bool),s.T[j]?=some t→m.bs[j]?=some tb→m.vis[j]?=some vi→s.here[j]?=some hr→s.known[j]?=some true→L2=(idC (s.T.take (j+1)):Int)→(0≤t.id∧t.id≤61)→Tj w w7 s.T s.here (j+1) (.slice gi n0 ci)→(∀(a':Act) (wx:World),a'.defers=[]∧a'.tmps.size=408∧a'.tmps.toList[0]?=some (.pointer (some ⟨zb,0,none⟩))∧a'.tmps.toList[3]?=some (.int .i64 L2)∧a'.tmps.toList[4]?=some (.slice gi n0 ci)∧a'.tmps.toList[5]?=some (.int .i64 (j:Int))∧a'.tmps.toList[6]?=some (.pointer (some ⟨tb,0,none⟩))∧a'.tmps.toList[7]?=some (.int .i64 (s.ad j))∧Tj w wx s.T s.here (j+1) (.slice gi n0 ci)→K4 a' wx)→(tellB B k w zb m s).1 K0 j K tb L2 K1 gi n0 ci w7 K4 }:=by
 apply Subtype.mk
 case property =>
  intro h hround K0 j K tb L2 K1 gi n0 ci w7 K4 t vi hr htt hb1 hb2 hhr hkn hl2 hid2 hJ hk4
  have HR4:=zc hround
  have HJ7:=zc hJ
  have HK4:=zc hk4
  clear hround hJ hk4
  obtain⟨gt,ct,hvt⟩:=aaa h.zr.th
  obtain⟨gk,ck,hvk⟩:=aaa h.zr.kr
  obtain⟨gw,cw,hvw⟩:=aaa h.zr.wr
  obtain⟨gh,ch,hvh⟩:=aaa h.zr.hr
  have hTl:s.T.length≤60:=by have:=h.fw.t;have:=h.fw.k60;omega
  have hWl:s.wh.length=s.T.length:=h.zi.lw
  have hKl:s.known.length=s.T.length:=h.zi.lk
  have hHl:s.here.length=s.T.length:=h.zi.rep.len
  have hlt:j<s.T.length:=(List.getElem?_eq_some_iff.1 htt).1
  have hlt2:(j:Int)<(s.T.length:Int):=by omega
  have HZA:=zc h
  have HVT:=zc hvt
  have HVK:=zc hvk
  have HVW:=zc hvw
  have HVH:=zc hvh
  have HTT:=zc htt
  have HB1:=zc hb1
  have HB2:=zc hb2
  have HHR:=zc hhr
  have HKN:=zc hkn
  have HL2:=zc hl2
  have hq:=aco
  clear h hvt hvk hvw hvh htt hb1 hb2 hhr hkn hl2
  obtain⟨x,hx,hi,hw⟩:=(za HZA).zi.obj (za HTT) (za HKN)
  have HX:Hid (aao s.P (s.ad j)=some x∧IsTh s.here s.ad t x):=⟨hx,hi⟩
  obtain⟨hb3,hb4⟩:=(za HZA).zr.ob j t tb vi (za HTT) (za HB1) (za HB2)
  obtain⟨gs,cs,hvs⟩:=aaa hb4
  have HVS:=zc hvs
  have hsz:t.is.length≤1000:=(za HZA).zi.sz t (List.mem_of_getElem? (za HTT))
  clear hx hi hw hb3 hb4 hvs
  delta tellB
  intro f
  refine wp_loop_ghost_k (fun gg a' wx=>∃(q:Nat),a'.defers=[]∧a'.tmps.size=408∧a'.tmps.toList[0]?=some (.pointer (some ⟨zb,0,none⟩))∧a'.tmps.toList[3]?=some (.int .i64 L2)∧a'.tmps.toList[4]?=some (.slice gi n0 ci)∧a'.tmps.toList[5]?=some (.int .i64 (j:Int))∧a'.tmps.toList[6]?=some (.pointer (some ⟨tb,0,none⟩))∧a'.tmps.toList[7]?=some (.int .i64 (s.ad j))∧a'.tmps.toList[9]?=some (.int .i64 (q:Int))∧q≤t.is.length∧gg=t.is.length-q∧Hid (Tj w wx s.T s.here (j+1) (.slice gi n0 ci))) t.is.length ?atStart2 ?round2
  case atStart2=>exact⟨0,rfl,rfl,rfl,rfl,rfl,rfl,rfl,rfl,rfl,Nat.zero_le _,rfl,za HJ7⟩
  case round2 =>
   rintro gk2 a wr ⟨q,hd,hs,h0,h3,h4,h5,h6,h7,h9,hq1,hg2,HQ⟩ J2 K2 aJ2 aK2
   obtain⟨f,ha⟩:=aje hd hs h0 h3 h4 h5 h6 h7 h9
   clear hd hs h0 h3 h4 h5 h6 h7 h9
   subst ha
   subst hg2
   have hZ:=(za HZA).zr.keep (za HQ).bl
   have HG:=zc ((za HZA).hg.keep (za HQ).bl)
   obtain⟨hb3,hb4⟩:=hZ.ob j t tb vi (za HTT) (za HB1) (za HB2)
   have x0:wr.cell? ⟨zb,0,none⟩=some (.pointer (some ⟨m.hp,0,none⟩)):=zd hZ.blk 0
   have t4:wr.cell? ⟨tb,4,none⟩=some (.slice gs t.is.length cs):=by rw[←za HVS];exact zd hb3 4
   have HH4:=zc hb4
   clear hb3 hb4 hZ
   by_cases hlq:q<t.is.length
   ·have hlq2:(q:Int)<(t.is.length:Int):=by omega
    obtain⟨c,hc⟩:∃c,t.is[q]?=some c:=⟨_,List.getElem?_eq_getElem hlq⟩
    obtain⟨v,hv,hf⟩:=(za HX).2.fld q c hc
    obtain⟨gs0,e6,_⟩:=aa2 (za HH4) (i:=q) (x:=.int .i64 c) (by rw[List.getElem?_map,hc];rfl) (za HVS)
    subst e6
    have HGT:=zc (getAt (za HG) (za HX).1 hv)
    have HC:=zc hc
    have HF:=zc hf
    clear hc hv hf
    go_upto_region 20 with fail
    rename_i K5 a5 Kx ax
    refine wp_cut (fun a' wx=>∃(vb:Nat),a'.defers=[]∧a'.tmps.size=408∧a'.tmps.toList[0]?=some (.pointer (some ⟨zb,0,none⟩))∧a'.tmps.toList[3]?=some (.int .i64 L2)∧a'.tmps.toList[4]?=some (.slice gi n0 ci)∧a'.tmps.toList[5]?=some (.int .i64 (j:Int))∧a'.tmps.toList[6]?=some (.pointer (some ⟨tb,0,none⟩))∧a'.tmps.toList[7]?=some (.int .i64 (s.ad j))∧a'.tmps.toList[9]?=some (.int .i64 (q:Int))∧a'.tmps.toList[10]?=some (.pointer (some ⟨vb,0,none⟩))∧a'.tmps.toList[11]?=some .nilIface∧Hid (Tj w wx s.T s.here (j+1) (.slice gi n0 ci)∧wx.heap[vb]?=some (.cells #[.int .i64 v.kind,.int .i64 v.n,.string v.s] 69 (0,0)))) ?rest1 ?first1
    case first1 =>
     intro J K' aJ aK'
     go_wp2_with fail
     refine(za HGT).mono ?_
     rintro e w2 ⟨rfl,hb2⟩
     have HQ2:=zc (((za HQ).keep hb2).keep ((Below.refl _ _).alloc (Nat.le_refl _) (.cells #[.int .i64 v.kind,.int .i64 v.n,.string v.s] 69)))
     clear hb2
     go_wp2_with fail
     exact Met.intro (aJ _ _ ⟨_,rfl,rfl,rfl,rfl,rfl,rfl,rfl,rfl,rfl,rfl,rfl,⟨za HQ2,aan _ _⟩⟩)
    rintro a w8 ⟨vb,hd,hs,h0,h3,h4,h5,h6,h7,h9,h10,h11,hcut⟩
    obtain⟨f,ha⟩:=agl hd hs h0 h3 h4 h5 h6 h7 h9 h10 h11
    clear hd hs h0 h3 h4 h5 h6 h7 h9 h10 h11
    subst ha
    obtain⟨hJ8,hbx⟩:=za hcut
    have hZ:=(za HZA).zr.keep hJ8.bl
    obtain⟨hb3,hb4⟩:=hZ.ob j t tb vi (za HTT) (za HB1) (za HB2)
    have y4:w8.cell? ⟨tb,4,none⟩=some (.slice (some ⟨gs0,0,none⟩) t.is.length cs):=by rw[←za HVS];exact zd hb3 4
    obtain⟨gs1,e6,_,y5,_⟩:=aa2 hb4 (i:=q) (x:=.int .i64 c) (by rw[List.getElem?_map,za HC];rfl) (za HVS)
    cases e6
    have HJ8:=zc hJ8
    have HBX:=zc hbx
    have HZ8:=zc hZ
    clear hcut hJ8 hbx hb3 hb4 hZ x0 t4 HGT HH4 HG
    by_cases hc0:c=0
    ·have ev:=(za HF).1 hc0
     subst ev hc0
     have v0:w8.cell? ⟨vb,0,none⟩=some (.int .i64 0):=zd (za HBX) 0
     have v1:w8.cell? ⟨vb,1,none⟩=some (.int .i64 0):=zd (za HBX) 1
     have v2:w8.cell? ⟨vb,2,none⟩=some (.string ⟨#[]⟩):=zd (za HBX) 2
     go_wp2_with fail
     refine Handed.intro (t.is.length-(q+1)) (by omega) (aJ2 _ _ _ ⟨(q+1),rfl,rfl,rfl,rfl,rfl,rfl,rfl,rfl,rfl,?_⟩)
     exact⟨by omega,rfl,za HJ8⟩
    by_cases hc1:c<0
    ·have ev:=(za HF).2.1 hc1
     have v0:w8.cell? ⟨vb,0,none⟩=some (.int .i64 2):=by rw[←ev];exact zd (za HBX) 0
     have g0:decide (c=0)=false:=by simpa using hc0
     clear ev hc0
     go_wp2_with fail
     refine Handed.intro (t.is.length-(q+1)) (by omega) (aJ2 _ _ _ ⟨(q+1),rfl,rfl,rfl,rfl,rfl,rfl,rfl,rfl,rfl,?_⟩)
     exact⟨by omega,rfl,za HJ8⟩
    ·obtain⟨p,o,y,hcp,ho,hvv,hy,hio,hkw⟩:=(za HZA).zi.ledTo (za HF) (by omega)
     subst hcp hvv
     have hpl:=(List.getElem?_eq_some_iff.1 ho).1
     have g0:decide ((p:Int)+1=0)=false:=by simpa using hc0
     have g1:decide ((p:Int)+1<0)=false:=by simpa using hc1
     have hp1:(p:Int)<(s.T.length:Int):=by omega
     have hwp:IntKind.i64.wrap (p:Int)=(p:Int):=by rw[IntKind.wrap_i64];omega
     have hp2:(p:Int)<(s.known.length:Int):=by rw[hKl];omega
     have hp3:(p:Int)<(s.wh.length:Int):=by rw[hWl];omega
     obtain⟨ob,vo,hd1,hd2,hd3,hd4⟩:=(za HZ8).thing ho
     obtain⟨gt1,e7,_,r7,_⟩:=aa2 (za HZ8).th (i:=p) (x:=.pointer (some ⟨ob,0,none⟩)) (by rw[List.getElem?_map,hd1];rfl) (za HVT)
     obtain⟨k2,hk2⟩:∃k2,s.known[p]?=some k2:=⟨_,List.getElem?_eq_getElem (by rw[hKl];exact hpl)⟩
     have z1:w8.cell? ⟨zb,1,none⟩=some (.slice (some ⟨gt1,0,none⟩) s.T.length ct):=by rw[←e7,←za HVT];exact zd (za HZ8).blk 1
     have v0:w8.cell? ⟨vb,0,none⟩=some (.int .i64 4):=zd (za HBX) 0
     have HF4:Hid (s.T[p]?=some o∧m.bs[p]?=some ob∧m.vis[p]?=some vo∧s.known[p]?=some k2∧(aao s.P (s.ad p)=some y∧IsTh s.here s.ad o y)∧(k2=true→s.wh[p]?=some (toA (s.ad p)))):=⟨ho,hd1,hd2,hk2,⟨hy,hio⟩,fun e=>hkw (e ▸ hk2)⟩
     clear hkw hk2 hd1 hd2 hd3 hd4 e7 ho hy hio hc0 hc1 HF HC
     go_upto_region 22 with fail
     refine wp_cut (fun a' wx=>a'.defers=[]∧a'.tmps.size=408∧a'.tmps.toList[0]?=some (.pointer (some ⟨zb,0,none⟩))∧a'.tmps.toList[3]?=some (.int .i64 L2)∧a'.tmps.toList[4]?=some (.slice gi n0 ci)∧a'.tmps.toList[5]?=some (.int .i64 (j:Int))∧a'.tmps.toList[6]?=some (.pointer (some ⟨tb,0,none⟩))∧a'.tmps.toList[7]?=some (.int .i64 (s.ad j))∧a'.tmps.toList[9]?=some (.int .i64 (q:Int))∧a'.tmps.toList[10]?=some (.pointer (some ⟨vb,0,none⟩))∧a'.tmps.toList[12]?=some (.int .i64 ((p:Int)+1))∧a'.tmps.toList[13]?=some (.pointer (some ⟨ob,0,none⟩))∧wx=w8) ?rest4 ?first4
     case first4 =>
      intro J K' aJ aK'
      go_wp2_with fail
      exact Met.intro (aJ _ _ ⟨rfl,rfl,rfl,rfl,rfl,rfl,rfl,rfl,rfl,rfl,rfl,rfl,rfl⟩)
     rintro a w9 ⟨hd,hs,h0,h3,h4,h5,h6,h7,h9,h10,h12,h13,hw9⟩
     obtain⟨f,ha⟩:=fr0_3_4_5_6_7_9_10_12_13 hd hs h0 h3 h4 h5 h6 h7 h9 h10 h12 h13
     clear hd hs h0 h3 h4 h5 h6 h7 h9 h10 h12 h13
     subst ha
     subst hw9
     clear z1 v0 r7
     go_upto_region 23 with fail
     refine wp_cut (fun a' wx=>a'.defers=[]∧a'.tmps.size=408∧a'.tmps.toList[0]?=some (.pointer (some ⟨zb,0,none⟩))∧a'.tmps.toList[3]?=some (.int .i64 L2)∧a'.tmps.toList[4]?=some (.slice gi n0 ci)∧a'.tmps.toList[5]?=some (.int .i64 (j:Int))∧a'.tmps.toList[6]?=some (.pointer (some ⟨tb,0,none⟩))∧a'.tmps.toList[7]?=some (.int .i64 (s.ad j))∧a'.tmps.toList[9]?=some (.int .i64 (q:Int))∧a'.tmps.toList[287]?=some (.bool false)∧Hid (Below w9.heap.size w9 wx)) ?rest5 ?first5
     case first5 =>
      intro J K' aJ aK'
      have hK9:(∀(a':Act) (wx:World),a'.defers=[]∧a'.tmps.size=408∧a'.tmps.toList[0]?=some (.pointer (some ⟨zb,0,none⟩))∧a'.tmps.toList[3]?=some (.int .i64 L2)∧a'.tmps.toList[4]?=some (.slice gi n0 ci)∧a'.tmps.toList[5]?=some (.int .i64 (j:Int))∧a'.tmps.toList[6]?=some (.pointer (some ⟨tb,0,none⟩))∧a'.tmps.toList[7]?=some (.int .i64 (s.ad j))∧a'.tmps.toList[9]?=some (.int .i64 (q:Int))∧a'.tmps.toList[287]?=some (.bool false)∧Hid (Below w9.heap.size w9 wx)→K' a' wx):=fun a' wx hh=>aK' _ _ (Met.intro (aJ _ _ hh))
      show Code.wp _ _ (Exit.then K' (Exit.inBlock 4 (Exit.inBlock 3 (Exit.then K5 (Exit.then K2 (Exit.inBlock 2 (Exit.then K4 (Exit.inBlock 1 (Exit.then K1 (Exit.then K (Exit.inBlock 0 (Exit.then K0 (bodyPost prog Tryz.f9 fun e w'=>e=.returned (.bool true)∧Below w.heap.size w w'))))))))))))) _ _
      obtain⟨f1,f2,f3,f4,f5,f6⟩:=za HF4
      revert f
      exact za HR4 K0 j K tb L2 K1 gi n0 ci K4 q K2 K5 vb p ob w9 K' o y k2 vo f1 f2 f3 f4 f5 f6 (za HJ8) (za HBX) hK9
     rintro a wa ⟨hd,hs,h0,h3,h4,h5,h6,h7,h9,h287,hb9⟩
     obtain⟨f,ha⟩:=ag8 hd hs h0 h3 h4 h5 h6 h7 h9 h287
     clear hd hs h0 h3 h4 h5 h6 h7 h9 h287
     subst ha
     have HJ9:=zc ((za HJ8).keep (za hb9))
     clear hb9
     go_wp2_with fail
     refine Handed.intro (t.is.length-(q+1)) (by omega) (aJ2 _ _ _ ⟨(q+1),rfl,rfl,rfl,rfl,rfl,rfl,rfl,rfl,rfl,?_⟩)
     exact⟨by omega,rfl,za HJ9⟩
   ·obtain rfl:q=t.is.length:=by omega
    have hlq2:decide ((t.is.length:Int)<(t.is.length:Int))=false:=by simp
    clear hlq
    go_wp2_with fail
    exact za HK4 _ _ ⟨rfl,rfl,rfl,rfl,rfl,rfl,rfl,rfl,za HQ⟩
end
section
open Go.RowKit Go.Maps
theorem tellD (B k:Nat) (w:World) (zb:Nat) (m:ZM) (s:ZS) (h:ZAt B k w zb m s):∀(K0:Act→World→Prop) (j:Nat) (K:Act→World→Prop) (tb:Nat) (L2:Int) (K1:Act→World→Prop) (gi:Option Addr) (n0 ci:Nat) (K4:Act→World→Prop) (q:Nat) (K2 K5:Act→World→Prop) (vb p ob:Nat) (w9:World) (K':Act→World→Prop) (o:Th) (y:HO) (k2:Bool) (vo:Value),s.T[p]?=some o→m.bs[p]?=some ob→m.vis[p]?=some vo→s.known[p]?=some k2→(aao s.P (s.ad p)=some y∧IsTh s.here s.ad o y)→(k2=true→s.wh[p]?=some (toA (s.ad p)))→Tj w w9 s.T s.here (j+1) (.slice gi n0 ci)→w9.heap[vb]?=some (.cells #[.int .i64 (toA (s.ad p)).kind,.int .i64 (toA (s.ad p)).n,.string (toA (s.ad p)).s] 69 (0,0))→(∀(a':Act) (wx:World),a'.defers=[]∧a'.tmps.size=408∧a'.tmps.toList[0]?=some (.pointer (some ⟨zb,0,none⟩))∧a'.tmps.toList[3]?=some (.int .i64 L2)∧a'.tmps.toList[4]?=some (.slice gi n0 ci)∧a'.tmps.toList[5]?=some (.int .i64 (j:Int))∧a'.tmps.toList[6]?=some (.pointer (some ⟨tb,0,none⟩))∧a'.tmps.toList[7]?=some (.int .i64 (s.ad j))∧a'.tmps.toList[9]?=some (.int .i64 (q:Int))∧a'.tmps.toList[287]?=some (.bool false)∧Hid (Below w9.heap.size w9 wx)→K' a' wx)→(tellC B k w zb m s).1 K0 j K tb L2 K1 gi n0 ci K4 q K2 K5 vb p ob w9 K':=by
 intro K0 j K tb L2 K1 gi n0 ci K4 q K2 K5 vb p ob w9 K' o y k2 vo ho hd1 hd2 hk2 hy hkw hJ hbx hk9
 obtain⟨gk,ck,hvk⟩:=aaa h.zr.kr
 obtain⟨gw,cw,hvw⟩:=aaa h.zr.wr
 have hTl:s.T.length≤60:=by have:=h.fw.t;have:=h.fw.k60;omega
 have hWl:s.wh.length=s.T.length:=h.zi.lw
 have hKl:s.known.length=s.T.length:=h.zi.lk
 have hpl:=(List.getElem?_eq_some_iff.1 ho).1
 have hp1:(p:Int)<(s.T.length:Int):=by omega
 have hwp:IntKind.i64.wrap (p:Int)=(p:Int):=by rw[IntKind.wrap_i64];omega
 have hp2:(p:Int)<(s.known.length:Int):=by rw[hKl];omega
 have hp3:(p:Int)<(s.wh.length:Int):=by rw[hWl];omega
 have hZ:=h.zr.keep hJ.bl
 obtain⟨hd3,hd4⟩:=hZ.ob p o ob vo ho hd1 hd2
 obtain⟨gk1,e8,_,r8,_⟩:=aa2 hZ.kr (i:=p) (x:=.bool k2) (by rw[List.getElem?_map,hk2];rfl) hvk
 obtain⟨go,co,hvo⟩:=aaa hd4
 have x0:w9.cell? ⟨zb,0,none⟩=some (.pointer (some ⟨m.hp,0,none⟩)):=zd hZ.blk 0
 have z4:w9.cell? ⟨zb,4,none⟩=some (.slice (some ⟨gk1,0,none⟩) s.known.length ck):=by rw[←e8,←hvk];exact zd hZ.blk 4
 have o0:w9.cell? ⟨ob,0,none⟩=some (.int .i64 o.kind):=zd hd3 0
 have o2:w9.cell? ⟨ob,2,none⟩=some (.int .i64 o.id):=zd hd3 2
 have o4:w9.cell? ⟨ob,4,none⟩=some (.slice go o.is.length co):=by rw[←hvo];exact zd hd3 4
 have v0:w9.cell? ⟨vb,0,none⟩=some (.int .i64 4):=zd hbx 0
 have v1:w9.cell? ⟨vb,1,none⟩=some (.int .i64 (s.ad p)):=zd hbx 1
 have v2:w9.cell? ⟨vb,2,none⟩=some (.string ⟨#[]⟩):=zd hbx 2
 have HWK:Hid (k2=true→∃gw0,w9.cell? ⟨zb,2,none⟩=some (.slice (some ⟨gw0,0,none⟩) s.wh.length cw)∧w9.cell? ⟨gw0,p*3,none⟩=some (.int .i64 4)∧w9.cell? ⟨gw0,p*3+1,none⟩=some (.int .i64 (s.ad p))∧w9.cell? ⟨gw0,p*3+2,none⟩=some (.string ⟨#[]⟩)):=fun e=>by
  obtain⟨gw1,e,_,q1,q2,q3,_⟩:=hZ.whCell (hkw e) hvw
  subst e
  exact⟨gw1,by rw[←hvw];exact zd hZ.blk 2,q1,q2,q3⟩
 have HY:=zc hy
 have HG:=zc (h.hg.keep hJ.bl)
 have HK9:=zc hk9
 clear h hvk hvw ho hd1 hd2 hk2 hy hkw hJ hbx hk9 hd3 hd4 hvo e8 hZ
 delta tellC
 intro f
 cases k2 with
 | false =>
  have ent230:∀w:World,Sem.run prog (callFunc 21 #[.pointer (some ⟨m.hp,0,none⟩),.int .i64 (s.ad p)]) w=.ok (.enter 21 #[.pointer (some ⟨m.hp,0,none⟩),.int .i64 (s.ad p)]) w:=fun _=>by kernel_rfl
  have ent231:∀w:World,Sem.run prog (callFunc 23 #[.pointer (some ⟨m.hp,0,none⟩),.int .i64 (s.ad p)]) w=.ok (.enter 23 #[.pointer (some ⟨m.hp,0,none⟩),.int .i64 (s.ad p)]) w:=fun _=>by kernel_rfl
  have ent232:∀w:World,Sem.run prog (callFunc 24 #[.pointer (some ⟨m.hp,0,none⟩),.int .i64 (s.ad p)]) w=.ok (.enter 24 #[.pointer (some ⟨m.hp,0,none⟩),.int .i64 (s.ad p)]) w:=fun _=>by kernel_rfl
  refine wp_region_held_drew (S:=fun w'=>Below w9.heap.size w9 w') (by kernel_rfl) (Below.refl _ _).drew (fun hHeld=>?_)
  refine tka 0 220 rfl ?_
  refine tka 1 221 rfl ?_ (hy:=by (intro w h;(try dsimp only at h);have q0:=zj h x0 (ze x0);have q1:=zj h z4 (ze z4);have q2:=zj h r8 (ze r8);have q3:=zj h v0 (ze v0);have q4:=zj h v1 (ze v1);have q5:=zj h v2 (ze v2);have q6:=zj h o0 (ze o0);have q7:=zj h o2 (ze o2);have q8:=zj h o4 (ze o4);clear h;go_simp;(try with_reducible rfl)))
  refine tka 2 222 rfl ?_
  refine tka 3 223 rfl ?_
  simp only[sA,sB,sC]
  refine tka 4 224 rfl ?_
  simp only[sA,sB,sC]
  refine tka 5 225 rfl ?_
  simp only[sA,sB,sC]
  refine tka 6 226 rfl ?_
  simp only[sA,sB,sC]
  refine tka 7 227 rfl ?_ (hy:=by (intro w h;(try dsimp only at h);have q0:=zj h x0 (ze x0);have q1:=zj h z4 (ze z4);have q2:=zj h r8 (ze r8);have q3:=zj h v0 (ze v0);have q4:=zj h v1 (ze v1);have q5:=zj h v2 (ze v2);have q6:=zj h o0 (ze o0);have q7:=zj h o2 (ze o2);have q8:=zj h o4 (ze o4);clear h;go_simp;(try with_reducible rfl)))
  simp only[sA,sB,sC]
  refine tka 8 228 rfl ?_
  simp only[sA,sB,sC]
  refine tka 9 229 rfl ?_
  simp only[sA,sB,sC]
  refine tka 10 230 rfl ?_
  simp only[sA,sB,sC]
  refine tka 11 231 rfl ?_ (hy:=by (intro w h;(try dsimp only at h);have q0:=zj h x0 (ze x0);have q1:=zj h z4 (ze z4);have q2:=zj h r8 (ze r8);have q3:=zj h v0 (ze v0);have q4:=zj h v1 (ze v1);have q5:=zj h v2 (ze v2);have q6:=zj h o0 (ze o0);have q7:=zj h o2 (ze o2);have q8:=zj h o4 (ze o4);clear h;go_simp;(try with_reducible rfl)))
  simp only[sA,sB,sC]
  refine tka 12 232 rfl ?_
  simp only[sA,sB,sC]
  refine tku 13 233 rfl ?_
  simp only[sA,sB,sC]
  refine tku 14 234 rfl ?_
  simp only[sA,sB,sC]
  refine tku 15 235 rfl ?_
  simp only[sA,sB,sC]
  refine tku 16 236 rfl ?_
  simp only[sA,sB,sC]
  refine tku 17 237 rfl ?_
  simp only[sA,sB,sC]
  refine tku 18 238 rfl ?_
  simp only[sA,sB,sC]
  refine tku 19 239 rfl ?_
  simp only[sA,sB,sC]
  refine tku 20 240 rfl ?_
  simp only[sA,sB,sC]
  refine tku 21 241 rfl ?_
  simp only[sA,sB,sC]
  refine tku 22 242 rfl ?_
  simp only[sA,sB,sC]
  refine tka 23 243 rfl ?_
  refine tka 24 244 rfl ?_
  refine tka 25 245 rfl ?_
  simp only[sA,sB,sC]
  refine tka 26 246 rfl ?_
  simp only[sA,sB,sC]
  refine tka 27 247 rfl ?_
  simp only[sA,sB,sC]
  refine tka 28 248 rfl ?_
  simp only[sA,sB,sC]
  refine tka 29 249 rfl ?_ (hy:=by (intro w h;(try dsimp only at h);have q0:=zj h x0 (ze x0);have q1:=zj h z4 (ze z4);have q2:=zj h r8 (ze r8);have q3:=zj h v0 (ze v0);have q4:=zj h v1 (ze v1);have q5:=zj h v2 (ze v2);have q6:=zj h o0 (ze o0);have q7:=zj h o2 (ze o2);have q8:=zj h o4 (ze o4);clear h;go_simp;(try with_reducible rfl)))
  simp only[sA,sB,sC]
  refine tka 30 250 rfl ?_
  simp only[sA,sB,sC]
  refine tka 31 251 rfl ?_ (hy:=by (intro w h;(try dsimp only at h);have q0:=zj h x0 (ze x0);have q1:=zj h z4 (ze z4);have q2:=zj h r8 (ze r8);have q3:=zj h v0 (ze v0);have q4:=zj h v1 (ze v1);have q5:=zj h v2 (ze v2);have q6:=zj h o0 (ze o0);have q7:=zj h o2 (ze o2);have q8:=zj h o4 (ze o4);clear h;go_simp;(try with_reducible rfl)))
  simp only[sA,sB,sC]
  refine tka 33 253 rfl ?_
  simp only[sA,sB,sC]
  refine tka 34 254 rfl ?_
  simp only[sA,sB,sC]
  refine tka 35 255 rfl ?_
  simp only[sA,sB,sC]
  refine tka 36 256 rfl ?_ (hy:=by (intro w h;(try dsimp only at h);have q0:=zj h x0 (ze x0);have q1:=zj h z4 (ze z4);have q2:=zj h r8 (ze r8);have q3:=zj h v0 (ze v0);have q4:=zj h v1 (ze v1);have q5:=zj h v2 (ze v2);have q6:=zj h o0 (ze o0);have q7:=zj h o2 (ze o2);have q8:=zj h o4 (ze o4);clear h;go_simp;(try with_reducible rfl)))
  simp only[sA,sB,sC]
  refine wpAnyH_ready (rs:=[32]) (by kernel_rfl) (by simp) ?_
  refine AllReadyH.cons (o:={ dst:=some 252,op:=_,type:=_,pos:=_,after:=_,guard:=_ }) rfl (fun K hK=>?_) AllReadyH.nil
  refine aaq (by rfl) (by simp[Act.eval,ent230,go_sem]) ((alm ((za HG).keep hHeld) (za HY)).mono ?_)
  rintro e w2 ⟨rfl,hb2⟩
  refine hK.out _ _ (Below.trans hHeld (hb2.mono (Below.size hHeld))) (fun hHeld32=>?_)
  clear hK K
  simp only[Act.put,sA,sB,sC]
  refine tka 37 257 rfl ?_
  refine tka 38 258 rfl ?_
  refine tka 39 259 rfl ?_
  simp only[sA,sB,sC]
  refine tka 40 260 rfl ?_
  simp only[sA,sB,sC]
  refine tka 41 261 rfl ?_
  simp only[sA,sB,sC]
  refine tka 42 262 rfl ?_
  simp only[sA,sB,sC]
  refine tka 43 263 rfl ?_ (hy:=by (intro w h;(try dsimp only at h);have q0:=zj h x0 (ze x0);have q1:=zj h z4 (ze z4);have q2:=zj h r8 (ze r8);have q3:=zj h v0 (ze v0);have q4:=zj h v1 (ze v1);have q5:=zj h v2 (ze v2);have q6:=zj h o0 (ze o0);have q7:=zj h o2 (ze o2);have q8:=zj h o4 (ze o4);clear h;go_simp;(try with_reducible rfl)))
  simp only[sA,sB,sC]
  refine tka 44 264 rfl ?_
  simp only[sA,sB,sC]
  refine tka 45 265 rfl ?_ (hy:=by (intro w h;(try dsimp only at h);have q0:=zj h x0 (ze x0);have q1:=zj h z4 (ze z4);have q2:=zj h r8 (ze r8);have q3:=zj h v0 (ze v0);have q4:=zj h v1 (ze v1);have q5:=zj h v2 (ze v2);have q6:=zj h o0 (ze o0);have q7:=zj h o2 (ze o2);have q8:=zj h o4 (ze o4);clear h;go_simp;(try with_reducible rfl)))
  simp only[sA,sB,sC]
  refine tka 47 267 rfl ?_
  simp only[sA,sB,sC]
  refine tka 48 268 rfl ?_
  simp only[sA,sB,sC]
  refine tka 49 269 rfl ?_
  simp only[sA,sB,sC]
  refine tka 50 270 rfl ?_ (hy:=by (intro w h;(try dsimp only at h);have q0:=zj h x0 (ze x0);have q1:=zj h z4 (ze z4);have q2:=zj h r8 (ze r8);have q3:=zj h v0 (ze v0);have q4:=zj h v1 (ze v1);have q5:=zj h v2 (ze v2);have q6:=zj h o0 (ze o0);have q7:=zj h o2 (ze o2);have q8:=zj h o4 (ze o4);clear h;go_simp;(try with_reducible rfl)))
  simp only[sA,sB,sC]
  refine wpAnyH_ready (rs:=[46]) (by kernel_rfl) (by simp) ?_
  refine AllReadyH.cons (o:={ dst:=some 266,op:=_,type:=_,pos:=_,after:=_,guard:=_ }) rfl (fun K hK=>?_) AllReadyH.nil
  refine aaq (by rfl) (by simp[Act.eval,ent231,go_sem]) ((idTh ((za HG).keep hHeld32) (za HY)).mono ?_)
  rintro e w2 ⟨rfl,hb2⟩
  refine hK.out _ _ (Below.trans hHeld32 (hb2.mono (Below.size hHeld32))) (fun hHeld46=>?_)
  clear hK K
  simp only[Act.put,sA,sB,sC]
  refine tka 51 271 rfl ?_
  refine tka 52 272 rfl ?_
  refine tka 53 273 rfl ?_
  simp only[sA,sB,sC]
  refine tka 54 274 rfl ?_
  simp only[sA,sB,sC]
  refine tka 55 275 rfl ?_
  simp only[sA,sB,sC]
  refine tka 56 276 rfl ?_
  simp only[sA,sB,sC]
  refine tka 57 277 rfl ?_ (hy:=by (intro w h;(try dsimp only at h);have q0:=zj h x0 (ze x0);have q1:=zj h z4 (ze z4);have q2:=zj h r8 (ze r8);have q3:=zj h v0 (ze v0);have q4:=zj h v1 (ze v1);have q5:=zj h v2 (ze v2);have q6:=zj h o0 (ze o0);have q7:=zj h o2 (ze o2);have q8:=zj h o4 (ze o4);clear h;go_simp;(try with_reducible rfl)))
  simp only[sA,sB,sC]
  refine tka 58 278 rfl ?_
  simp only[sA,sB,sC]
  refine tka 59 279 rfl ?_ (hy:=by (intro w h;(try dsimp only at h);have q0:=zj h x0 (ze x0);have q1:=zj h z4 (ze z4);have q2:=zj h r8 (ze r8);have q3:=zj h v0 (ze v0);have q4:=zj h v1 (ze v1);have q5:=zj h v2 (ze v2);have q6:=zj h o0 (ze o0);have q7:=zj h o2 (ze o2);have q8:=zj h o4 (ze o4);clear h;go_simp;(try with_reducible rfl)))
  simp only[sA,sB,sC]
  refine tka 61 281 rfl ?_
  simp only[sA,sB,sC]
  refine tka 62 282 rfl ?_
  simp only[sA,sB,sC]
  refine tka 63 283 rfl ?_
  simp only[sA,sB,sC]
  refine tka 64 284 rfl ?_ (hy:=by (intro w h;(try dsimp only at h);have q0:=zj h x0 (ze x0);have q1:=zj h z4 (ze z4);have q2:=zj h r8 (ze r8);have q3:=zj h v0 (ze v0);have q4:=zj h v1 (ze v1);have q5:=zj h v2 (ze v2);have q6:=zj h o0 (ze o0);have q7:=zj h o2 (ze o2);have q8:=zj h o4 (ze o4);clear h;go_simp;(try with_reducible rfl)))
  simp only[sA,sB,sC]
  refine tka 65 285 rfl ?_
  simp only[sA,sB,sC]
  refine wpAnyH_ready (rs:=[60]) (by kernel_rfl) (by simp) ?_
  refine AllReadyH.cons (o:={ dst:=some 280,op:=_,type:=_,pos:=_,after:=_,guard:=_ }) rfl (fun K hK=>?_) AllReadyH.nil
  refine aaq (by rfl) (by simp[Act.eval,ent232,go_sem]) ((aln ((za HG).keep hHeld46) (za HY)).mono ?_)
  rintro e w2 ⟨rfl,hb2⟩
  refine hK.out _ _ (Below.trans hHeld46 (hb2.mono (Below.size hHeld46))) (fun hHeld60=>?_)
  clear hK K
  simp only[Act.put,sA,sB,sC]
  refine tka 66 286 rfl ?_
  refine tka 67 287 rfl ?_
  simp only[sA,sB,sC]
  refine wpAnyH_done (by kernel_rfl) ?_ _
  try go_wp2_with fail
  exact za HK9 _ _ ⟨rfl,rfl,rfl,rfl,rfl,rfl,rfl,rfl,rfl,rfl,hHeld60⟩
 | true =>
  obtain⟨gw0,z2,s0,s1,s2⟩:=za HWK rfl
  have ent230:∀w:World,Sem.run prog (callFunc 21 #[.pointer (some ⟨m.hp,0,none⟩),.int .i64 (s.ad p)]) w=.ok (.enter 21 #[.pointer (some ⟨m.hp,0,none⟩),.int .i64 (s.ad p)]) w:=fun _=>by kernel_rfl
  have ent231:∀w:World,Sem.run prog (callFunc 23 #[.pointer (some ⟨m.hp,0,none⟩),.int .i64 (s.ad p)]) w=.ok (.enter 23 #[.pointer (some ⟨m.hp,0,none⟩),.int .i64 (s.ad p)]) w:=fun _=>by kernel_rfl
  have ent232:∀w:World,Sem.run prog (callFunc 24 #[.pointer (some ⟨m.hp,0,none⟩),.int .i64 (s.ad p)]) w=.ok (.enter 24 #[.pointer (some ⟨m.hp,0,none⟩),.int .i64 (s.ad p)]) w:=fun _=>by kernel_rfl
  refine wp_region_held_drew (S:=fun w'=>Below w9.heap.size w9 w') (by kernel_rfl) (Below.refl _ _).drew (fun hHeld=>?_)
  refine tka 0 220 rfl ?_
  refine tka 1 221 rfl ?_ (hy:=by (intro w h;(try dsimp only at h);have q0:=zj h x0 (ze x0);have q1:=zj h z4 (ze z4);have q2:=zj h r8 (ze r8);have q3:=zj h v0 (ze v0);have q4:=zj h v1 (ze v1);have q5:=zj h v2 (ze v2);have q6:=zj h o0 (ze o0);have q7:=zj h o2 (ze o2);have q8:=zj h o4 (ze o4);have q9:=zj h z2 (ze z2);have q10:=zj h s0 (ze s0);have q11:=zj h s1 (ze s1);have q12:=zj h s2 (ze s2);clear h;go_simp;(try with_reducible rfl)))
  refine tka 2 222 rfl ?_
  refine tka 3 223 rfl ?_
  simp only[sA,sB,sC]
  refine tka 4 224 rfl ?_
  simp only[sA,sB,sC]
  refine tka 5 225 rfl ?_
  simp only[sA,sB,sC]
  refine tka 6 226 rfl ?_
  simp only[sA,sB,sC]
  refine tka 7 227 rfl ?_ (hy:=by (intro w h;(try dsimp only at h);have q0:=zj h x0 (ze x0);have q1:=zj h z4 (ze z4);have q2:=zj h r8 (ze r8);have q3:=zj h v0 (ze v0);have q4:=zj h v1 (ze v1);have q5:=zj h v2 (ze v2);have q6:=zj h o0 (ze o0);have q7:=zj h o2 (ze o2);have q8:=zj h o4 (ze o4);have q9:=zj h z2 (ze z2);have q10:=zj h s0 (ze s0);have q11:=zj h s1 (ze s1);have q12:=zj h s2 (ze s2);clear h;go_simp;(try with_reducible rfl)))
  simp only[sA,sB,sC]
  refine tka 8 228 rfl ?_
  simp only[sA,sB,sC]
  refine tka 9 229 rfl ?_
  simp only[sA,sB,sC]
  refine tka 10 230 rfl ?_
  simp only[sA,sB,sC]
  refine tka 11 231 rfl ?_ (hy:=by (intro w h;(try dsimp only at h);have q0:=zj h x0 (ze x0);have q1:=zj h z4 (ze z4);have q2:=zj h r8 (ze r8);have q3:=zj h v0 (ze v0);have q4:=zj h v1 (ze v1);have q5:=zj h v2 (ze v2);have q6:=zj h o0 (ze o0);have q7:=zj h o2 (ze o2);have q8:=zj h o4 (ze o4);have q9:=zj h z2 (ze z2);have q10:=zj h s0 (ze s0);have q11:=zj h s1 (ze s1);have q12:=zj h s2 (ze s2);clear h;go_simp;(try with_reducible rfl)))
  simp only[sA,sB,sC]
  refine tka 12 232 rfl ?_
  simp only[sA,sB,sC]
  refine tka 13 233 rfl ?_ (hy:=by (intro w h;(try dsimp only at h);have q0:=zj h x0 (ze x0);have q1:=zj h z4 (ze z4);have q2:=zj h r8 (ze r8);have q3:=zj h v0 (ze v0);have q4:=zj h v1 (ze v1);have q5:=zj h v2 (ze v2);have q6:=zj h o0 (ze o0);have q7:=zj h o2 (ze o2);have q8:=zj h o4 (ze o4);have q9:=zj h z2 (ze z2);have q10:=zj h s0 (ze s0);have q11:=zj h s1 (ze s1);have q12:=zj h s2 (ze s2);clear h;go_simp;(try with_reducible rfl)))
  simp only[sA,sB,sC]
  refine tka 14 234 rfl ?_
  simp only[sA,sB,sC]
  refine tka 15 235 rfl ?_
  simp only[sA,sB,sC]
  refine tka 16 236 rfl ?_
  simp only[sA,sB,sC]
  refine tka 17 237 rfl ?_ (hy:=by (intro w h;(try dsimp only at h);have q0:=zj h x0 (ze x0);have q1:=zj h z4 (ze z4);have q2:=zj h r8 (ze r8);have q3:=zj h v0 (ze v0);have q4:=zj h v1 (ze v1);have q5:=zj h v2 (ze v2);have q6:=zj h o0 (ze o0);have q7:=zj h o2 (ze o2);have q8:=zj h o4 (ze o4);have q9:=zj h z2 (ze z2);have q10:=zj h s0 (ze s0);have q11:=zj h s1 (ze s1);have q12:=zj h s2 (ze s2);clear h;go_simp;(try with_reducible rfl)))
  simp only[sA,sB,sC]
  refine tka 18 238 rfl ?_
  simp only[sA,sB,sC]
  refine tka 19 239 rfl ?_
  simp only[sA,sB,sC]
  refine tka 20 240 rfl ?_
  simp only[sA,sB,sC]
  refine tka 21 241 rfl ?_ (hy:=by (intro w h;(try dsimp only at h);have q0:=zj h x0 (ze x0);have q1:=zj h z4 (ze z4);have q2:=zj h r8 (ze r8);have q3:=zj h v0 (ze v0);have q4:=zj h v1 (ze v1);have q5:=zj h v2 (ze v2);have q6:=zj h o0 (ze o0);have q7:=zj h o2 (ze o2);have q8:=zj h o4 (ze o4);have q9:=zj h z2 (ze z2);have q10:=zj h s0 (ze s0);have q11:=zj h s1 (ze s1);have q12:=zj h s2 (ze s2);clear h;go_simp;(try with_reducible rfl)))
  simp only[sA,sB,sC]
  refine tka 22 242 rfl ?_
  simp only[sA,sB,sC]
  refine tka 23 243 rfl ?_
  refine tka 24 244 rfl ?_
  refine tka 25 245 rfl ?_
  simp only[sA,sB,sC]
  refine tka 26 246 rfl ?_
  simp only[sA,sB,sC]
  refine tka 27 247 rfl ?_
  simp only[sA,sB,sC]
  refine tka 28 248 rfl ?_
  simp only[sA,sB,sC]
  refine tka 29 249 rfl ?_ (hy:=by (intro w h;(try dsimp only at h);have q0:=zj h x0 (ze x0);have q1:=zj h z4 (ze z4);have q2:=zj h r8 (ze r8);have q3:=zj h v0 (ze v0);have q4:=zj h v1 (ze v1);have q5:=zj h v2 (ze v2);have q6:=zj h o0 (ze o0);have q7:=zj h o2 (ze o2);have q8:=zj h o4 (ze o4);have q9:=zj h z2 (ze z2);have q10:=zj h s0 (ze s0);have q11:=zj h s1 (ze s1);have q12:=zj h s2 (ze s2);clear h;go_simp;(try with_reducible rfl)))
  simp only[sA,sB,sC]
  refine tka 30 250 rfl ?_
  simp only[sA,sB,sC]
  refine tka 31 251 rfl ?_ (hy:=by (intro w h;(try dsimp only at h);have q0:=zj h x0 (ze x0);have q1:=zj h z4 (ze z4);have q2:=zj h r8 (ze r8);have q3:=zj h v0 (ze v0);have q4:=zj h v1 (ze v1);have q5:=zj h v2 (ze v2);have q6:=zj h o0 (ze o0);have q7:=zj h o2 (ze o2);have q8:=zj h o4 (ze o4);have q9:=zj h z2 (ze z2);have q10:=zj h s0 (ze s0);have q11:=zj h s1 (ze s1);have q12:=zj h s2 (ze s2);clear h;go_simp;(try with_reducible rfl)))
  simp only[sA,sB,sC]
  refine tka 33 253 rfl ?_
  simp only[sA,sB,sC]
  refine tka 34 254 rfl ?_
  simp only[sA,sB,sC]
  refine tka 35 255 rfl ?_
  simp only[sA,sB,sC]
  refine tka 36 256 rfl ?_ (hy:=by (intro w h;(try dsimp only at h);have q0:=zj h x0 (ze x0);have q1:=zj h z4 (ze z4);have q2:=zj h r8 (ze r8);have q3:=zj h v0 (ze v0);have q4:=zj h v1 (ze v1);have q5:=zj h v2 (ze v2);have q6:=zj h o0 (ze o0);have q7:=zj h o2 (ze o2);have q8:=zj h o4 (ze o4);have q9:=zj h z2 (ze z2);have q10:=zj h s0 (ze s0);have q11:=zj h s1 (ze s1);have q12:=zj h s2 (ze s2);clear h;go_simp;(try with_reducible rfl)))
  simp only[sA,sB,sC]
  refine wpAnyH_ready (rs:=[32]) (by kernel_rfl) (by simp) ?_
  refine AllReadyH.cons (o:={ dst:=some 252,op:=_,type:=_,pos:=_,after:=_,guard:=_ }) rfl (fun K hK=>?_) AllReadyH.nil
  refine aaq (by rfl) (by simp[Act.eval,ent230,go_sem]) ((alm ((za HG).keep hHeld) (za HY)).mono ?_)
  rintro e w2 ⟨rfl,hb2⟩
  refine hK.out _ _ (Below.trans hHeld (hb2.mono (Below.size hHeld))) (fun hHeld32=>?_)
  clear hK K
  simp only[Act.put,sA,sB,sC]
  refine tka 37 257 rfl ?_
  refine tka 38 258 rfl ?_
  refine tka 39 259 rfl ?_
  simp only[sA,sB,sC]
  refine tka 40 260 rfl ?_
  simp only[sA,sB,sC]
  refine tka 41 261 rfl ?_
  simp only[sA,sB,sC]
  refine tka 42 262 rfl ?_
  simp only[sA,sB,sC]
  refine tka 43 263 rfl ?_ (hy:=by (intro w h;(try dsimp only at h);have q0:=zj h x0 (ze x0);have q1:=zj h z4 (ze z4);have q2:=zj h r8 (ze r8);have q3:=zj h v0 (ze v0);have q4:=zj h v1 (ze v1);have q5:=zj h v2 (ze v2);have q6:=zj h o0 (ze o0);have q7:=zj h o2 (ze o2);have q8:=zj h o4 (ze o4);have q9:=zj h z2 (ze z2);have q10:=zj h s0 (ze s0);have q11:=zj h s1 (ze s1);have q12:=zj h s2 (ze s2);clear h;go_simp;(try with_reducible rfl)))
  simp only[sA,sB,sC]
  refine tka 44 264 rfl ?_
  simp only[sA,sB,sC]
  refine tka 45 265 rfl ?_ (hy:=by (intro w h;(try dsimp only at h);have q0:=zj h x0 (ze x0);have q1:=zj h z4 (ze z4);have q2:=zj h r8 (ze r8);have q3:=zj h v0 (ze v0);have q4:=zj h v1 (ze v1);have q5:=zj h v2 (ze v2);have q6:=zj h o0 (ze o0);have q7:=zj h o2 (ze o2);have q8:=zj h o4 (ze o4);have q9:=zj h z2 (ze z2);have q10:=zj h s0 (ze s0);have q11:=zj h s1 (ze s1);have q12:=zj h s2 (ze s2);clear h;go_simp;(try with_reducible rfl)))
  simp only[sA,sB,sC]
  refine tka 47 267 rfl ?_
  simp only[sA,sB,sC]
  refine tka 48 268 rfl ?_
  simp only[sA,sB,sC]
  refine tka 49 269 rfl ?_
  simp only[sA,sB,sC]
  refine tka 50 270 rfl ?_ (hy:=by (intro w h;(try dsimp only at h);have q0:=zj h x0 (ze x0);have q1:=zj h z4 (ze z4);have q2:=zj h r8 (ze r8);have q3:=zj h v0 (ze v0);have q4:=zj h v1 (ze v1);have q5:=zj h v2 (ze v2);have q6:=zj h o0 (ze o0);have q7:=zj h o2 (ze o2);have q8:=zj h o4 (ze o4);have q9:=zj h z2 (ze z2);have q10:=zj h s0 (ze s0);have q11:=zj h s1 (ze s1);have q12:=zj h s2 (ze s2);clear h;go_simp;(try with_reducible rfl)))
  simp only[sA,sB,sC]
  refine wpAnyH_ready (rs:=[46]) (by kernel_rfl) (by simp) ?_
  refine AllReadyH.cons (o:={ dst:=some 266,op:=_,type:=_,pos:=_,after:=_,guard:=_ }) rfl (fun K hK=>?_) AllReadyH.nil
  refine aaq (by rfl) (by simp[Act.eval,ent231,go_sem]) ((idTh ((za HG).keep hHeld32) (za HY)).mono ?_)
  rintro e w2 ⟨rfl,hb2⟩
  refine hK.out _ _ (Below.trans hHeld32 (hb2.mono (Below.size hHeld32))) (fun hHeld46=>?_)
  clear hK K
  simp only[Act.put,sA,sB,sC]
  refine tka 51 271 rfl ?_
  refine tka 52 272 rfl ?_
  refine tka 53 273 rfl ?_
  simp only[sA,sB,sC]
  refine tka 54 274 rfl ?_
  simp only[sA,sB,sC]
  refine tka 55 275 rfl ?_
  simp only[sA,sB,sC]
  refine tka 56 276 rfl ?_
  simp only[sA,sB,sC]
  refine tka 57 277 rfl ?_ (hy:=by (intro w h;(try dsimp only at h);have q0:=zj h x0 (ze x0);have q1:=zj h z4 (ze z4);have q2:=zj h r8 (ze r8);have q3:=zj h v0 (ze v0);have q4:=zj h v1 (ze v1);have q5:=zj h v2 (ze v2);have q6:=zj h o0 (ze o0);have q7:=zj h o2 (ze o2);have q8:=zj h o4 (ze o4);have q9:=zj h z2 (ze z2);have q10:=zj h s0 (ze s0);have q11:=zj h s1 (ze s1);have q12:=zj h s2 (ze s2);clear h;go_simp;(try with_reducible rfl)))
  simp only[sA,sB,sC]
  refine tka 58 278 rfl ?_
  simp only[sA,sB,sC]
  refine tka 59 279 rfl ?_ (hy:=by (intro w h;(try dsimp only at h);have q0:=zj h x0 (ze x0);have q1:=zj h z4 (ze z4);have q2:=zj h r8 (ze r8);have q3:=zj h v0 (ze v0);have q4:=zj h v1 (ze v1);have q5:=zj h v2 (ze v2);have q6:=zj h o0 (ze o0);have q7:=zj h o2 (ze o2);have q8:=zj h o4 (ze o4);have q9:=zj h z2 (ze z2);have q10:=zj h s0 (ze s0);have q11:=zj h s1 (ze s1);have q12:=zj h s2 (ze s2);clear h;go_simp;(try with_reducible rfl)))
  simp only[sA,sB,sC]
  refine tka 61 281 rfl ?_
  simp only[sA,sB,sC]
  refine tka 62 282 rfl ?_
  simp only[sA,sB,sC]
  refine tka 63 283 rfl ?_
  simp only[sA,sB,sC]
  refine tka 64 284 rfl ?_ (hy:=by (intro w h;(try dsimp only at h);have q0:=zj h x0 (ze x0);have q1:=zj h z4 (ze z4);have q2:=zj h r8 (ze r8);have q3:=zj h v0 (ze v0);have q4:=zj h v1 (ze v1);have q5:=zj h v2 (ze v2);have q6:=zj h o0 (ze o0);have q7:=zj h o2 (ze o2);have q8:=zj h o4 (ze o4);have q9:=zj h z2 (ze z2);have q10:=zj h s0 (ze s0);have q11:=zj h s1 (ze s1);have q12:=zj h s2 (ze s2);clear h;go_simp;(try with_reducible rfl)))
  simp only[sA,sB,sC]
  refine tka 65 285 rfl ?_
  simp only[sA,sB,sC]
  refine wpAnyH_ready (rs:=[60]) (by kernel_rfl) (by simp) ?_
  refine AllReadyH.cons (o:={ dst:=some 280,op:=_,type:=_,pos:=_,after:=_,guard:=_ }) rfl (fun K hK=>?_) AllReadyH.nil
  refine aaq (by rfl) (by simp[Act.eval,ent232,go_sem]) ((aln ((za HG).keep hHeld46) (za HY)).mono ?_)
  rintro e w2 ⟨rfl,hb2⟩
  refine hK.out _ _ (Below.trans hHeld46 (hb2.mono (Below.size hHeld46))) (fun hHeld60=>?_)
  clear hK K
  simp only[Act.put,sA,sB,sC]
  refine tka 66 286 rfl ?_
  refine tka 67 287 rfl ?_
  simp only[sA,sB,sC]
  refine wpAnyH_done (by kernel_rfl) ?_ _
  try go_wp2_with fail
  exact za HK9 _ _ ⟨rfl,rfl,rfl,rfl,rfl,rfl,rfl,rfl,rfl,rfl,hHeld60⟩
end
section
open Go.RowKit Go.Maps
theorem ao6 {B k:Nat} {w:World} {zb:Nat} {m:ZM} {s:ZS} (h:ZAt B k w zb m s) (hT:ErrT w):Calls prog 9 #[.pointer (some ⟨zb,0,none⟩)] w fun e w'=>e=.returned (.bool true)∧Below w.heap.size w w' :=
 (tellA B k w zb m s).2 h ((tellB B k w zb m s).2 h hT ((tellC B k w zb m s).2 h (tellD B k w zb m s h)))
end
end Go.Proofs.YtpnghfghdbijlaaGreatDoor
