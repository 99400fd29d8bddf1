package aes

// Sbox tells a byte's box.
func Sbox(b byte) byte { return byte(boxes[b/8] >> (8 * (7 - b%8))) }

// Unbox leads back from Sbox.
func Unbox(b byte) byte { return byte(unboxes[b/8] >> (8 * (7 - b%8))) }

// boxes are what Sbox tells, eight to a word and the first of them highest, so that the table stays short.
var boxes = [32]uint64{
	0x637c777bf26b6fc5, 0x3001672bfed7ab76,
	0xca82c97dfa5947f0, 0xadd4a2af9ca472c0,
	0xb7fd9326363ff7cc, 0x34a5e5f171d83115,
	0x04c723c31896059a, 0x071280e2eb27b275,
	0x09832c1a1b6e5aa0, 0x523bd6b329e32f84,
	0x53d100ed20fcb15b, 0x6acbbe394a4c58cf,
	0xd0efaafb434d3385, 0x45f9027f503c9fa8,
	0x51a3408f929d38f5, 0xbcb6da2110fff3d2,
	0xcd0c13ec5f974417, 0xc4a77e3d645d1973,
	0x60814fdc222a9088, 0x46eeb814de5e0bdb,
	0xe0323a0a4906245c, 0xc2d3ac629195e479,
	0xe7c8376d8dd54ea9, 0x6c56f4ea657aae08,
	0xba78252e1ca6b4c6, 0xe8dd741f4bbd8b8a,
	0x703eb5664803f60e, 0x613557b986c11d9e,
	0xe1f8981169d98e94, 0x9b1e87e9ce5528df,
	0x8ca1890dbfe64268, 0x41992d0fb054bb16,
}

// unboxes are what Unbox tells, laid as boxes are.
var unboxes = [32]uint64{
	0x52096ad53036a538, 0xbf40a39e81f3d7fb,
	0x7ce339829b2fff87, 0x348e4344c4dee9cb,
	0x547b9432a6c2233d, 0xee4c950b42fac34e,
	0x082ea16628d924b2, 0x765ba2496d8bd125,
	0x72f8f66486689816, 0xd4a45ccc5d65b692,
	0x6c704850fdedb9da, 0x5e154657a78d9d84,
	0x90d8ab008cbcd30a, 0xf7e45805b8b34506,
	0xd02c1e8fca3f0f02, 0xc1afbd0301138a6b,
	0x3a9111414f67dcea, 0x97f2cfcef0b4e673,
	0x96ac7422e7ad3585, 0xe2f937e81c75df6e,
	0x47f11a711d29c589, 0x6fb7620eaa18be1b,
	0xfc563e4bc6d27920, 0x9adbc0fe78cd5af4,
	0x1fdda8338807c731, 0xb11210592780ec5f,
	0x60517fa919b54a0d, 0x2de57a9f93c99cef,
	0xa0e03b4dae2af5b0, 0xc8ebbb3c83539961,
	0x172b047eba77d626, 0xe169146355210c7d,
}
